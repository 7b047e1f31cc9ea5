import Derived.Test.YtiefgmgjlhjjhaaDoorWrite
namespace Go.Proofs.YtiefgmgjlhjjhaaDoor
open Go.RowKit

theorem built59 : Tryd.prog.built 132 [(0, .int .u32 1779033703), (1, .int .u32 3144134277), (2, .int .u32 1013904242), (3, .int .u32 2773480762), (4, .int .u32 1359893119), (5, .int .u32 2600822924), (6, .int .u32 528734635), (7, .int .u32 1541459225)] = some (wvs iv).toArray := by kernel_rfl

theorem iv_length : iv.length = 8 := rfl

set_option maxHeartbeats 1000000 in
set_option maxRecDepth 100000 in
theorem begin_any (w : World) : Calls Tryd.prog 64 #[] w fun e w' => e = .returned (.agg (wvs iv).toArray) ∧ Below w.heap.size w w' := by
  have hsz := info39 iv iv_length
  go_enter Tryd.func64, Tryd.ntmps64
  go_wp2_with (first
    | (refine wpList_newAt rfl 132 rfl (wvs z8) zero39 w.heap.size rfl ?_)
    | (refine wpList_plain rfl fun K hK => ?_; refine wp_build 132 _ rfl (by rw [show _ = some (wvs iv).toArray from built59]; rfl) ?_; rw [show Tryd.prog.built 132 _ = some (wvs iv).toArray from built59]; refine hK _ _ ?_; clear hK K)
    | (refine wpList_store_row rfl 132 (.tmp 0) (.tmp 1) rfl w.heap.size (wvs iv).toArray rfl rfl 132 (wvs z8).toArray (Blk.new w _ _) hsz rfl (wvs_one _) ?_))
  refine bodyPost_ret (v := .agg (wvs iv).toArray) ?_ rfl ⟨rfl, below_setRow ((Below.refl _ _).alloc (Nat.le_refl _) _) _ _ (Nat.le_refl _)⟩
  exact results_cell_row Tryd.results64 _ _ w.heap.size 132 _ (0, 0) _ rfl ((Blk.new w _ _).setRow _) Tryd.underlying132 rfl hsz

theorem wpList_bld {P : Program} {ops : Array Oper} {rest : List Oper} {o : Oper} {a : Act} {w : World} {Q : Exit → Act → World → Prop} (hg : o.guard = none) (t : TypeId) (parts : Array (Nat × Operand)) (ho : o.op = .build t parts)
    (l : List (Nat × Value)) (hl : (parts.map fun (i, x) => (i, a.eval x)).toList = l) (cells : Array Value) (hb : P.built t l = some cells)
    (h : wpList P ops Q rest (a.put o.dst (.agg cells)) w) : wpList P ops Q (o :: rest) a w := by
  subst hl
  refine wpList_build hg t parts ho (by rw [hb]; rfl) ?_
  rw [hb]
  exact h

theorem built61 : Tryd.prog.built 136 [(0, .agg (wvs iv).toArray)] = some (hcells []).toArray := by kernel_rfl

set_option maxHeartbeats 1000000 in
set_option maxRecDepth 100000 in
theorem new_any (w : World) : Calls Tryd.prog 57 #[] w fun e w' => ∃ g, e = .returned (.pointer (some ⟨g, 0, none⟩)) ∧ w.heap.size ≤ g ∧ HAt w' g [] ∧ Below w.heap.size w w' := by
  go_enter Tryd.func57, Tryd.ntmps57
  go_wp2_with (first
    | (go_at_call 64; refine (begin_any _).mono ?_; rintro e w1 ⟨rfl, hb1⟩)
    | (refine wpList_bld rfl 136 #[(0, .tmp 1)] rfl [(0, .agg (wvs iv).toArray)] (by simp [Act.eval, Act.put]) (hcells []).toArray built61 ?_)
    | (refine wpList_boxAt rfl 136 _ rfl (hcells []) rfl w1.heap.size rfl ?_))
  go_ret
  exact ⟨_, rfl, hb1.size, Blk.new w1 _ _, hb1.alloc hb1.size _⟩

/-- No hash at all. -/
def hzero : List Value := hc z8 z64b 0
theorem info57z : (Tryd.prog.info? 136).map (fun i => (i.zero, i.size)) = some (some (.agg hzero.toArray), 73) := by kernel_rfl
theorem zero57 (w : World) : (zeroValue 136).run Tryd.prog w = .ok (.agg hzero.toArray) w := (zero_of_info info57z).1 w
theorem hcells_length (m : List UInt8) : (hcells m).length = 73 := hc_length _ _ _ (stt_length m) (rst_length m)
theorem hzero_length : hzero.length = 73 := by kernel_rfl
theorem info57 (m : List UInt8) : (Tryd.prog.info? 136).map (·.size) = some (hcells m).toArray.size := by
  rw [List.size_toArray, hcells_length]; exact (zero_of_info info57z).2
theorem hcells_one (m : List UInt8) : (hcells m).toArray.all (·.oneCell') = true := all_oneCell_toArray fun v hv => by
  unfold hcells hc at hv
  rcases List.mem_append.1 hv with h | h
  · obtain ⟨x, _, rfl⟩ := List.mem_map.1 h; rfl
  · rcases List.mem_append.1 h with h | h
    · exact byt_one _ v h
    · obtain rfl := List.mem_singleton.1 h; rfl

set_option maxHeartbeats 1000000 in
set_option maxRecDepth 100000 in
theorem copy_any (p : Nat) (m : List UInt8) (w : World) (h : HAt w p m) : Calls Tryd.prog 66 #[.pointer (some ⟨p, 0, none⟩)] w fun e w' => ∃ g, e = .returned (.pointer (some ⟨g, 0, none⟩)) ∧ w.heap.size ≤ g ∧ HAt w' g m ∧ Below w.heap.size w w' := by
  have H := hide h
  clear h
  go_enter Tryd.func66, Tryd.ntmps66
  go_wp2_with (first
    | (refine wpList_load_row rfl 136 (.tmp 5) rfl p rfl 136 (hcells m).toArray (0, 0) _ H.out Tryd.underlying136 rfl (info57 m) ?_)
    | (refine wpList_newAt rfl 136 rfl hzero zero57 w.heap.size rfl ?_)
    | (refine wpList_store_row rfl 136 (.tmp 3) (.tmp 6) rfl w.heap.size (hcells m).toArray rfl rfl 136 hzero.toArray (Blk.new w _ _) (info57 m) (by rw [List.size_toArray, List.size_toArray, hcells_length, hzero_length]) (hcells_one m) ?_))
  go_ret
  exact ⟨_, rfl, Nat.le_refl _, (Blk.new w _ _).setRow _, below_setRow ((Below.refl _ _).alloc (Nat.le_refl _) _) _ _ (Nat.le_refl _)⟩

end Go.Proofs.YtiefgmgjlhjjhaaDoor
