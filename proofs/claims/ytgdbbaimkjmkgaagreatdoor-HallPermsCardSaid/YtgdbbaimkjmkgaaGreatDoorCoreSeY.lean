/-
  Part of the engine that the claim is proved with: it states nothing of the document by itself.
-/
import Derived.Test.YtgdbbaimkjmkgaaGreatDoorCoreSeX

namespace Go.Ev
section
variable {base : Nat} {H0 : AHeap × Sig} {ν : Nu} {σ : Sig} {S : SS} {F : AFrame} {H : AHeap}

theorem symOps_ok {C : Ctx} {G : Msk} {srun : SRun} {run : Run} (E : Env C G srun run) {ops : Array Oper} : ∀ (l : List Oper) {S : SS} {F : AFrame} {H : AHeap} {ν : Nu} {σ : Sig} {Ks : SS → Prop}, SR C.P base H0 ν σ S F H → symOps C srun ops l S Ks →
    ∃ F' H', stepOps (callA C.P G run) C.P ops l F H = some (F', H') ∧ ∃ S' ν' σ', Ks S' ∧ SR C.P base H0 ν' σ' S' F' H' ∧ XNn S.nx ν ν' ∧ XS σ σ' ∧ Keeps S S' ∧ Same (wOps ops l) S S'
  | [], S, F, H, ν, σ, Ks, hr, h => ⟨F, H, rfl, S, ν, σ, h, hr, .refl _, .refl _, .refl _, .refl _ _⟩
  | o :: l, S, F, H, ν, σ, Ks, hr, h => by
    obtain ⟨S1, hr1, hk1, hs1, h | h⟩ := symFetch_ok hr (show symFetch S ops o (fun S => symOp C srun o.op S fun v S1 => S1.put o.dst (some v) fun S2 => symOps C srun ops l S2 Ks) (fun S => S.put o.dst (some (.val undef)) fun S2 => symOps C srun ops l S2 Ks) from h)
    · obtain ⟨hf, h⟩ := h
      obtain ⟨v', H2, hop, v, S2, ν2, σ2, h, hr2, hv, hxn, hxs, hfr, hk2⟩ := symOp_ok E (type := o.type) hr1 h
      obtain ⟨F3, S3, hput, h, hr3, hk3, hs3⟩ := SS.put_ok hr2 h (v' := v') (fun u hu => by cases hu; exact hv)
      obtain ⟨F4, H4, hst, S4, ν4, σ4, h, hr4, hxn4, hxs4, hk4, hs4⟩ := symOps_ok E l hr3 h
      refine ⟨F4, H4, ?_, S4, ν4, σ4, h, hr4, (hxn.mono hk1.nx).trans hxn4 (Nat.le_trans hk1.nx (Nat.le_trans hk2.nx hk3.nx)), hxs.trans hxs4, hk1.trans (hk2.trans (hk3.trans hk4)), ?_⟩
      · simp only [stepOps, hf, cond_true, hop, forceV_eq, hput, hst]
      · refine (hs1.mono (wOps_g List.mem_cons_self)).trans (.trans (fun t _ => by rw [hfr]) ((hs3.mono (wOps_dst List.mem_cons_self)).trans (hs4.mono (wOps_sub fun o ho => List.mem_cons_of_mem _ ho))))
    · obtain ⟨hf, h⟩ := h
      obtain ⟨F3, S3, hput, h, hr3, hk3, hs3⟩ := SS.put_ok hr1 h (v' := undef) (fun u hu => by cases hu; exact .undef)
      obtain ⟨F4, H4, hst, S4, ν4, σ4, h, hr4, hxn4, hxs4, hk4, hs4⟩ := symOps_ok E l hr3 h
      refine ⟨F4, H4, ?_, S4, ν4, σ4, h, hr4, hxn4.mono (Nat.le_trans hk1.nx hk3.nx), hxs4, hk1.trans (hk3.trans hk4), ?_⟩
      · simp only [stepOps, hf, cond_false, hput, hst]
      · refine (hs1.mono (wOps_g List.mem_cons_self)).trans ((hs3.mono (wOps_dst List.mem_cons_self)).trans (hs4.mono (wOps_sub fun o ho => List.mem_cons_of_mem _ ho)))

/-- An operation that is to turn nothing that was there. -/
theorem symOp_still {C : Ctx} {G : Msk} {srun : SRun} {run : Run} (E : Env C G srun run) {o : Op} {type : TypeId} {K : V → SS → Prop} (hr : SR C.P base H0 ν σ S F H) (h : symOp C srun o { S with ro := S.nx } K) :
    ∃ v' H2, opA (callA C.P G run) C.P F o type { H with wlow := H.next } = some (v', H2) ∧ H.next ≤ H2.wlow ∧ ∃ v S2 ν2 σ2, K v S2 ∧ SR C.P base H0 ν2 σ2 { S2 with ro := S.ro } F { H2 with wlow := H.wlow } ∧ VRel C.P σ2 ν2 v v' ∧ XNn S.nx ν ν2 ∧ XS σ σ2 ∧ S2.fr = S.fr ∧ Keeps S { S2 with ro := S.ro } := by
  have hr' : SR C.P H.next ({ H with wlow := H.next }, σ) ν σ { S with ro := S.nx } F { H with wlow := H.next } :=
    ⟨hr.fr, hr.fsz, hr.top, hr.nomk, hr.blk, hr.lt, hr.dom, hr.inj, fun b i z hb h => (by rw [hr.dom b hb] at h; cases h), hr.sig, hr.apart, fun b k i z m h h' hm => ⟨fun hb => (by rw [hr.dom b hb] at h'; cases h'), (hr.mates b k i z m h h' hm).2⟩, Nat.le_refl _, fun _ _ => rfl, Nat.le_refl _, Nat.le_refl _, fun _ _ h _ => h⟩
  obtain ⟨v', H2, hop, v, S2, ν2, σ2, h, hr2, hv, hxn, hxs, hfr, hk⟩ := symOp_ok E (type := type) hr' h
  refine ⟨v', H2, hop, hr2.wl, v, S2, ν2, σ2, h, ?_, hv, hxn, hxs, hfr, ⟨hk.nx, hk.sz, rfl, hk.fl, hk.wr, hk.hp, fun b _ hb => hk.rb b hb hb⟩⟩
  have hnn : base ≤ H2.next := Nat.le_trans hr.nxt hr2.nxt
  refine ⟨hr2.fr, hr2.fsz, hr2.top, hr2.nomk, hr2.blk, hr2.lt, hr2.dom, hr2.inj, fun b i z hb h => ?_, hr2.sig, hr2.apart, fun b k i z m hk' h hm => ?_, hr.wl, fun i hi => (hr2.old i (Nat.lt_of_lt_of_le hi hr.nxt)).trans (hr.old i hi), hnn, Nat.le_trans hr.role hk.nx, fun i c hc hi => hr.sb i c (hr2.sb i c hc (Nat.lt_of_lt_of_le hi hr.nxt)) hi⟩
  · rcases Nat.lt_or_ge b S.nx with hlt | hge
    · exact hr.own b i z hb (by rw [← hxn b hlt]; exact h)
    · exact Nat.le_trans hr.nxt (hr2.own b i z (by rw [hk.ro]; exact hge) h)
  · obtain ⟨q1, q2⟩ := hr2.mates b k i z m hk' h hm
    refine ⟨fun hb => ?_, q2⟩
    rcases Nat.lt_or_ge b S.nx with hlt | hge
    · have hkb : S.hp.get b = some k := by rw [← hk.rb b hlt hlt]; exact hk'
      have hνb : ν b = some (i, z) := by rw [← hxn b hlt]; exact h
      have hmb : H.mate i = some m := by
        rw [← hm]
        refine (AHeap.mate_congr ?_)
        exact (hr2.old i (hr.lt b i z hνb)).symm
      exact (hr.mates b k i z m hkb hνb hmb).1 hb
    · exact Nat.le_trans hr.nxt (q1 (by rw [hk.ro]; exact hge))

theorem symPre_ok {C : Ctx} {G : Msk} {srun : SRun} {run : Run} (E : Env C G srun run) {ops : Array Oper} : ∀ (l : List Oper) {S : SS} {F : AFrame} {H : AHeap} {ν : Nu} {σ : Sig} {Ks : SS → Prop}, SR C.P base H0 ν σ S F H → symPre C srun ops l S Ks →
    ∃ F' H', preOps (callA C.P G run) C.P ops l F H = some (F', H') ∧ ∃ S' ν' σ', Ks S' ∧ SR C.P base H0 ν' σ' S' F' H' ∧ XNn S.nx ν ν' ∧ XS σ σ' ∧ Keeps S S' ∧ Same (wOps ops l) S S'
  | [], S, F, H, ν, σ, Ks, hr, h => ⟨F, H, rfl, S, ν, σ, h, hr, .refl _, .refl _, .refl _, .refl _ _⟩
  | o :: l, S, F, H, ν, σ, Ks, hr, h => by
    obtain ⟨S1, hr1, hk1, hs1, h | h⟩ := symFetch_ok hr (show symFetch S ops o (fun S => symOp C srun o.op { S with ro := S.nx } fun v S1 => SS.put { S1 with ro := S.ro } o.dst (some v) fun S2 => symPre C srun ops l S2 Ks) (fun S => S.put o.dst (some (.val undef)) fun S2 => symPre C srun ops l S2 Ks) from h)
    · obtain ⟨hf, h⟩ := h
      obtain ⟨v', H2, hop, hw, v, S2, ν2, σ2, h, hr2, hv, hxn, hxs, hfr, hk2⟩ := symOp_still E (type := o.type) hr1 h
      obtain ⟨F3, S3, hput, h, hr3, hk3, hs3⟩ := SS.put_ok hr2 h (v' := v') (fun u hu => by cases hu; exact hv)
      obtain ⟨F4, H4, hst, S4, ν4, σ4, h, hr4, hxn4, hxs4, hk4, hs4⟩ := symPre_ok E l hr3 h
      refine ⟨F4, H4, ?_, S4, ν4, σ4, h, hr4, (hxn.mono hk1.nx).trans hxn4 (Nat.le_trans hk1.nx (Nat.le_trans hk2.nx hk3.nx)), hxs.trans hxs4, hk1.trans (hk2.trans (hk3.trans hk4)), ?_⟩
      · simp only [preOps, hf, cond_true, hop, Nat.ble_eq_true_of_le hw, forceV_eq, hput, hst]
      · refine (hs1.mono (wOps_g List.mem_cons_self)).trans (.trans (fun t _ => by show S2.fr.get t = _; rw [hfr]) ((hs3.mono (wOps_dst List.mem_cons_self)).trans (hs4.mono (wOps_sub fun o ho => List.mem_cons_of_mem _ ho))))
    · obtain ⟨hf, h⟩ := h
      obtain ⟨F3, S3, hput, h, hr3, hk3, hs3⟩ := SS.put_ok hr1 h (v' := undef) (fun u hu => by cases hu; exact .undef)
      obtain ⟨F4, H4, hst, S4, ν4, σ4, h, hr4, hxn4, hxs4, hk4, hs4⟩ := symPre_ok E l hr3 h
      refine ⟨F4, H4, ?_, S4, ν4, σ4, h, hr4, hxn4.mono (Nat.le_trans hk1.nx hk3.nx), hxs4, hk1.trans (hk3.trans hk4), ?_⟩
      · simp only [preOps, hf, cond_false, hput, hst]
      · refine (hs1.mono (wOps_g List.mem_cons_self)).trans ((hs3.mono (wOps_dst List.mem_cons_self)).trans (hs4.mono (wOps_sub fun o ho => List.mem_cons_of_mem _ ho)))

theorem symRegion_ok {C : Ctx} {G : Msk} {srun : SRun} {run : Run} (E : Env C G srun run) {ops : Array Oper} {draw : Bool} {Q : SQ} (hr : SR C.P base H0 ν σ S F H) (h : symRegion C srun ops draw S Q) :
    ∃ F' H', evRegion C.P G run ops draw F H = some (.normal, F', H') ∧ ∃ S' ν' σ', Q .normal S' ∧ SR C.P base H0 ν' σ' S' F' H' ∧ XNn S.nx ν ν' ∧ XS σ σ' ∧ Keeps S S' ∧ Same (wOps ops ops.toList) S S' := by
  unfold symRegion at h
  unfold evRegion
  cases draw with
  | false =>
    obtain ⟨F', H', h1, S', ν', σ', h2⟩ := symOps_ok E ops.toList hr h
    exact ⟨F', H', by simp only [cond_false, h1], S', ν', σ', h2⟩
  | true =>
    simp only [cond_true] at h ⊢
    unfold evDraw
    generalize hT : tailFrom (freeOf ops) (masks ops.toList []) ops.size = T at h ⊢
    cases hd : drawOK ops (masks ops.toList []) T with
    | false => rw [hd] at h; exact h.elim
    | true =>
      rw [hd] at h
      simp only [cond_true] at h ⊢
      obtain ⟨F1, H1, h1, S1, ν1, σ1, h, hr1, hxn1, hxs1, hk1, hs1⟩ := symPre_ok E _ hr h
      obtain ⟨F2, H2, h2, S2, ν2, σ2, h, hr2, hxn2, hxs2, hk2, hs2⟩ := symOps_ok E _ hr1 h
      refine ⟨F2, H2, by simp only [h1, h2], S2, ν2, σ2, h, hr2, hxn1.trans hxn2 hk1.nx, hxs1.trans hxs2, hk1.trans hk2, ?_⟩
      exact (hs1.mono (wOps_sub fun o ho => List.mem_of_mem_take ho)).trans (hs2.mono (wOps_sub fun o ho => List.mem_of_mem_drop ho))
end
end Go.Ev
