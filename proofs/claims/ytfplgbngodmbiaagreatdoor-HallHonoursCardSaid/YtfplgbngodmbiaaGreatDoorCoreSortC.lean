/-
  Part of the engine that the claim is proved with: it states nothing of the document by itself.
-/
import Derived.Test.YtfplgbngodmbiaaGreatDoorCoreAwake
import Derived.Test.YtfplgbngodmbiaaGreatDoorCoreShelfC
open Go.Proofs
namespace Go.Ev
open Go.RowKit Go.Sort
theorem putRow_map {α : Type} [Inhabited α] (f : α → Int) (w : World) (blk off : Nat) (dk : Array α) : putRow (fun x => Value.int .i64 (f x)) w blk off dk = putRow (Value.int .i64) w blk off (dk.map f) := by
 unfold putRow
 congr 1
 funext c
 unfold putCells
 apply Array.ext
 ·simp
 ·intro k h1 h2
  simp only [Array.getElem_mapIdx, Array.size_map]
  split
  ·rename_i hk
   rw [getElem!_pos dk _ (by omega), getElem!_pos (dk.map f) _ (by simp; omega), Array.getElem_map]
  ·rfl
theorem sortC110 : SortCFact Tryz.prog 110 := by
 refine ⟨fun args w => ?_, fun n w blk off cap zs ss cmp c cb hne hs hent hcmp hH hb hl => ?_⟩
 ·obtain ⟨body, hbody⟩ : ∃ body, Tryz.f110.body = some body := ⟨_, rfl⟩
  exact run_callFunc_in (GOK.of okGB) (by kernel_rfl) Tryz.func110 hbody args w
 ·haveI : Inhabited {z : Int // z ∈ zs} := ⟨⟨zs.head hne, List.head_mem hne⟩⟩
  have hin : ∀ x : {z : Int // z ∈ zs}, ∃ i : Nat, ss[i]? = some x.1 := fun x => List.getElem?_of_mem (hs.perm.mem_iff.2 x.2)
  let cf : {z : Int // z ∈ zs} → {z : Int // z ∈ zs} → Int := fun x y => (cmp x.1 y.1).getD 0
  have hcf : ∀ x y, cmp x.1 y.1 = some (cf x y) ∧ (cf x y < 0 ↔ Bef ss x.1 y.1) := fun x y => by
   obtain ⟨z, h1, h2⟩ := hs.ord x.1 y.1 (hs.perm.mem_iff.2 x.2) (hs.perm.mem_iff.2 y.2)
   have : cf x y = z := by show (cmp x.1 y.1).getD 0 = z; rw [h1]; rfl
   rw [this]; exact ⟨h1, h2⟩
  have hlt : ∀ x y, ltOf cf x y = true ↔ Bef ss x.1 y.1 := fun x y => by
   unfold ltOf; rw [decide_eq_true_iff]; exact (hcf x y).2
  have hnl : ∀ x y, ltOf cf x y = false ↔ ¬ Bef ss x.1 y.1 := fun x y => by
   rw [← hlt]; simp
  have hO : SWO (ltOf cf) := by
   refine ⟨fun x => ?_, fun x y z h1 h2 => ?_, fun x y z h1 h2 => ?_⟩
   ·obtain ⟨i, hi⟩ := hin x
    rw [hnl, bef_idx hs.nodup hi hi]; omega
   ·obtain ⟨i, hi⟩ := hin x; obtain ⟨j, hj⟩ := hin y; obtain ⟨k, hk⟩ := hin z
    rw [hlt, bef_idx hs.nodup hi hj] at h1
    rw [hlt, bef_idx hs.nodup hj hk] at h2
    rw [hlt, bef_idx hs.nodup hi hk]; omega
   ·obtain ⟨i, hi⟩ := hin x; obtain ⟨j, hj⟩ := hin y; obtain ⟨k, hk⟩ := hin z
    rw [hnl, bef_idx hs.nodup hi hj] at h1
    rw [hnl, bef_idx hs.nodup hj hk] at h2
    rw [hnl, bef_idx hs.nodup hi hk]; omega
  let enc : {z : Int // z ∈ zs} → Value := fun x => .int .i64 x.1
  have hd : zs.attach.toArray.map (fun x : {z : Int // z ∈ zs} => x.1) = zs.toArray := by
   rw [List.map_toArray, List.attach_map_subtype_val]
  have hds : zs.attach.toArray.size = zs.length := by simp
  have hH2 : Holds enc w blk off zs.attach.toArray := fun j hj => by
   have hj' : j < zs.length := by rw [← hds]; exact hj
   obtain ⟨h1, h2⟩ := hH j (by simpa using hj')
   refine ⟨?_, h2⟩
   rw [h1, getElem!_pos zs.toArray j (by simpa using hj'), getElem!_pos zs.attach.toArray j hj]
   simp [enc]
  have hw : ∀ (m : Nat) (dk : Array {z : Int // z ∈ zs}) (os : Array Obj), sortWorld enc w blk off m dk os = grow (putRow (Value.int .i64) (Sort.ahead w m) blk off (dk.map (·.1))) os := fun m dk os => by
   unfold sortWorld
   rw [← putRow_map]
  have hcl : CmpLays1 Tryz.prog c cb enc cf blk off zs.attach.toArray.size w := fun m os dk hk x y => by
   have h := hcmp m os (dk.map (·.1)) (by rw [Array.size_map, hk, hds]) x.1 y.1 (cf x y) (hcf x y).1
   rw [← hw] at h
   refine Calls.mono h ?_
   rintro e w' ⟨h1, q, os', h2⟩
   exact ⟨h1, q, os', h2⟩
  have hcall := Any.slices_SortFunc Tryz.laysC110 enc (fun _ => rfl) cf hO c cb blk off cap zs.attach.toArray w hent hcl hH2 hb (by rw [hds]; exact hl)
  rw [hds] at hcall
  refine callsIn_wide.2 (hcall.mono ?_)
  rintro e w' ⟨rfl, d', k, os, hp, hsrt, rfl⟩
  refine ⟨rfl, k, os, ?_⟩
  rw [hw]
  have hsz : d'.size = zs.length := hp.1.trans hds
  have hml : (d'.map (·.1)).toList = d'.toList.map (·.1) := by simp
  have : (d'.map (·.1)).toList = ss := by
   rw [hml]
   have hperm : (d'.toList.map (·.1)).Perm ss := by
    have h3 := hp.2.2
    have e1 : d'.extract 0 zs.length = d' := by rw [← hsz]; simp
    have e2 : zs.attach.toArray.extract 0 zs.length = zs.attach.toArray := by
     have := Array.extract_size (xs := zs.attach.toArray)
     rw [hds] at this; exact this
    rw [e1, e2] at h3
    have := h3.map (fun x : {z : Int // z ∈ zs} => x.1)
    rw [List.attach_map_subtype_val] at this
    exact this.trans hs.perm.symm
   refine hperm.eq_of_pairwise (le := fun a b => ¬ Bef ss b a) (fun a b ha hb h1 h2 => ?_) ?_ ?_
   ·obtain ⟨i, hi⟩ := List.getElem?_of_mem (hperm.mem_iff.1 ha)
    obtain ⟨j, hj⟩ := List.getElem?_of_mem hb
    rw [bef_idx hs.nodup hj hi] at h1
    rw [bef_idx hs.nodup hi hj] at h2
    have : i = j := by omega
    subst this
    rw [hi] at hj; exact Option.some.inj hj
   ·rw [List.pairwise_map, List.pairwise_iff_getElem]
    intro i j hi hj hij
    have h := hsrt i j (Nat.zero_le _) hij (by rw [← hsz]; simpa using hj)
    rw [hnl, getElem!_pos d' j (by simpa using hj), getElem!_pos d' i (by simpa using hi)] at h
    simpa using h
   ·rw [List.pairwise_iff_getElem]
    intro i j hi hj hij
    rw [bef_idx hs.nodup (List.getElem?_eq_getElem hj) (List.getElem?_eq_getElem hi)]; omega
  rw [← this]
end Go.Ev
