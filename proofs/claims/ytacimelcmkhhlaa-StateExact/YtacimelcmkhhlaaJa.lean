import Derived.Test.YtacimelcmkhhlaaHn
set_option linter.unusedVariables false
set_option linter.unusedSimpArgs false
namespace Go.Proofs.Ytacimelcmkhhlaa
open Go.RowKit

def z64 : List UInt8 := List.replicate 64 0
/-- A session's state. -/
structure Sg where
  sid : List UInt8
  root : List UInt8
  pri : List UInt8
  pub : List UInt8
  peer : List UInt8
  sk : List UInt8
  rk : List UInt8
  own : Nat
  turns : Nat
  sent : Nat
  got : Nat
  prev : Nat
  ser : Nat
  hl : Hl
  bind : List UInt8
structure Sg.ok (s : Sg) : Prop where
  sid : s.sid.length = 16
  root : s.root.length = 32
  pri : s.pri.length = 32
  pub : s.pub.length = 32
  peer : s.peer.length = 32
  sk : s.sk.length = 32
  rk : s.rk.length = 32
  own : s.own < 4294967296
  turns : s.turns < 4294967296
  sent : s.sent < 4294967296
  got : s.got < 4294967296
  prev : s.prev < 4294967296
  ser : s.ser < 4294967296
  hl : s.hl.ok
  bind : s.bind.length = 64
def Sg.cs (s : Sg) : List Value := s.sid.map byt ++ (s.root.map byt ++ (s.pri.map byt ++ (s.pub.map byt ++ (s.peer.map byt ++ (s.sk.map byt ++ (s.rk.map byt ++ ([u32v s.own] ++ ([u32v s.turns] ++ ([u32v s.sent] ++ ([u32v s.got] ++ ([u32v s.prev] ++ ([u32v s.ser] ++ (s.hl.cs ++ s.bind.map byt)))))))))))))
def Sg.v (s : Sg) : Value := .agg s.cs.toArray
def Sg.z : Sg := ⟨z16, z32, z32, z32, z32, z32, z32, 0, 0, 0, 0, 0, 0, Hl.z, z64⟩
theorem Sg.z_ok : Sg.z.ok := ⟨rfl, rfl, rfl, rfl, rfl, rfl, rfl, by decide, by decide, by decide, by decide, by decide, by decide, Hl.z_ok, rfl⟩
theorem Sg.len {s : Sg} (k : s.ok) : s.cs.length = 343 := by simp [Sg.cs, k.sid, k.root, k.pri, k.pub, k.peer, k.sk, k.rk, k.bind, Hl.len k.hl]
theorem Sg.one' (s : Sg) : ∀ v ∈ s.cs, v.oneCell' = true := fun v hv => by
  simp only [Sg.cs, List.mem_append, List.mem_singleton] at hv
  rcases hv with hv | hv | hv | hv | hv | hv | hv | rfl | rfl | rfl | rfl | rfl | rfl | hv | hv
  · exact one_byts _ v hv
  · exact one_byts _ v hv
  · exact one_byts _ v hv
  · exact one_byts _ v hv
  · exact one_byts _ v hv
  · exact one_byts _ v hv
  · exact one_byts _ v hv
  · rfl
  · rfl
  · rfl
  · rfl
  · rfl
  · rfl
  · exact s.hl.one' v hv
  · exact one_byts _ v hv
theorem Sg.one (s : Sg) : s.cs.toArray.all (·.oneCell') = true := all_oneCell_toArray s.one'
theorem u31 : Try.prog.underlying 31 = some (.array 64 5) := by kernel_rfl
theorem i33 {s : Sg} (k : s.ok) : (Try.prog.info? 33).map (·.size) = some s.cs.length := by rw [Sg.len k]; kernel_rfl
theorem zv33 (w : World) : (zeroValue 33).run Try.prog w = .ok Sg.z.v w := (zero_of_info (show (Try.prog.info? 33).map (fun i => (i.zero, i.size)) = some (some Sg.z.v, 343) by kernel_rfl)).1 w
theorem bd33 (W : World) : (Instr.build 33 ([] : List (Nat × Value)).toArray).run Try.prog W = .ok Sg.z.v W := by kernel_rfl
theorem sl31 (q o : Nat) (W : World) : (Instr.sliceAt 31 (.pointer (some ⟨q, o, none⟩)) none none none).run Try.prog W = .ok (.slice (some ⟨q, o, none⟩) 64 64) W := by
  go_simp
  try simp
  try rw [Addr.add_mid]
  try simp
theorem f33_0 (q : Nat) (W : World) : (Instr.fieldAt 33 (.pointer (some ⟨q, 0, none⟩)) 0).run Try.prog W = .ok (.pointer (some ⟨q, 0, none⟩)) W := by
  go_simp
  try simp
  try rw [add_plain]
theorem f33_1 (q : Nat) (W : World) : (Instr.fieldAt 33 (.pointer (some ⟨q, 0, none⟩)) 1).run Try.prog W = .ok (.pointer (some ⟨q, 16, none⟩)) W := by
  go_simp
  try simp
  try rw [add_plain]
theorem f33_2 (q : Nat) (W : World) : (Instr.fieldAt 33 (.pointer (some ⟨q, 0, none⟩)) 2).run Try.prog W = .ok (.pointer (some ⟨q, 48, none⟩)) W := by
  go_simp
  try simp
  try rw [add_plain]
theorem f33_3 (q : Nat) (W : World) : (Instr.fieldAt 33 (.pointer (some ⟨q, 0, none⟩)) 3).run Try.prog W = .ok (.pointer (some ⟨q, 112, none⟩)) W := by
  go_simp
  try simp
  try rw [add_plain]
theorem f33_4 (q : Nat) (W : World) : (Instr.fieldAt 33 (.pointer (some ⟨q, 0, none⟩)) 4).run Try.prog W = .ok (.pointer (some ⟨q, 144, none⟩)) W := by
  go_simp
  try simp
  try rw [add_plain]
theorem f33_5 (q : Nat) (W : World) : (Instr.fieldAt 33 (.pointer (some ⟨q, 0, none⟩)) 5).run Try.prog W = .ok (.pointer (some ⟨q, 176, none⟩)) W := by
  go_simp
  try simp
  try rw [add_plain]
theorem f33_6 (q : Nat) (W : World) : (Instr.fieldAt 33 (.pointer (some ⟨q, 0, none⟩)) 6).run Try.prog W = .ok (.pointer (some ⟨q, 208, none⟩)) W := by
  go_simp
  try simp
  try rw [add_plain]
theorem f33_7 (q : Nat) (W : World) : (Instr.fieldAt 33 (.pointer (some ⟨q, 0, none⟩)) 7).run Try.prog W = .ok (.pointer (some ⟨q, 209, none⟩)) W := by
  go_simp
  try simp
  try rw [add_plain]
theorem f33_8 (q : Nat) (W : World) : (Instr.fieldAt 33 (.pointer (some ⟨q, 0, none⟩)) 8).run Try.prog W = .ok (.pointer (some ⟨q, 210, none⟩)) W := by
  go_simp
  try simp
  try rw [add_plain]
theorem f33_9 (q : Nat) (W : World) : (Instr.fieldAt 33 (.pointer (some ⟨q, 0, none⟩)) 9).run Try.prog W = .ok (.pointer (some ⟨q, 211, none⟩)) W := by
  go_simp
  try simp
  try rw [add_plain]
theorem f33_10 (q : Nat) (W : World) : (Instr.fieldAt 33 (.pointer (some ⟨q, 0, none⟩)) 10).run Try.prog W = .ok (.pointer (some ⟨q, 212, none⟩)) W := by
  go_simp
  try simp
  try rw [add_plain]
theorem f33_11 (q : Nat) (W : World) : (Instr.fieldAt 33 (.pointer (some ⟨q, 0, none⟩)) 11).run Try.prog W = .ok (.pointer (some ⟨q, 213, none⟩)) W := by
  go_simp
  try simp
  try rw [add_plain]
theorem f33_12 (q : Nat) (W : World) : (Instr.fieldAt 33 (.pointer (some ⟨q, 0, none⟩)) 12).run Try.prog W = .ok (.pointer (some ⟨q, 214, none⟩)) W := by
  go_simp
  try simp
  try rw [add_plain]
theorem f33_13 (q : Nat) (W : World) : (Instr.fieldAt 33 (.pointer (some ⟨q, 0, none⟩)) 13).run Try.prog W = .ok (.pointer (some ⟨q, 279, none⟩)) W := by
  go_simp
  try simp
  try rw [add_plain]
theorem f27_0 (q o : Nat) (W : World) : (Instr.fieldAt 27 (.pointer (some ⟨q, o, none⟩)) 0).run Try.prog W = .ok (.pointer (some ⟨q, o + 0, none⟩)) W := by
  go_simp
  try simp
  try rw [Addr.add_mid]
theorem f27_1 (q o : Nat) (W : World) : (Instr.fieldAt 27 (.pointer (some ⟨q, o, none⟩)) 1).run Try.prog W = .ok (.pointer (some ⟨q, o + 32, none⟩)) W := by
  go_simp
  try simp
  try rw [Addr.add_mid]
section
variable {s : Sg}
def Sg.a_sid (s : Sg) : List Value := []
def Sg.b_sid (s : Sg) : List Value := s.root.map byt ++ (s.pri.map byt ++ (s.pub.map byt ++ (s.peer.map byt ++ (s.sk.map byt ++ (s.rk.map byt ++ ([u32v s.own] ++ ([u32v s.turns] ++ ([u32v s.sent] ++ ([u32v s.got] ++ ([u32v s.prev] ++ ([u32v s.ser] ++ (s.hl.cs ++ s.bind.map byt))))))))))))
theorem Sg.c_sid : s.cs = s.a_sid ++ (s.sid.map byt ++ s.b_sid) := by simp [Sg.cs, Sg.a_sid, Sg.b_sid]
theorem Sg.l_sid (k : s.ok) : s.a_sid.length = 0 := by simp [Sg.a_sid]
def Sg.a_root (s : Sg) : List Value := s.sid.map byt
def Sg.b_root (s : Sg) : List Value := s.pri.map byt ++ (s.pub.map byt ++ (s.peer.map byt ++ (s.sk.map byt ++ (s.rk.map byt ++ ([u32v s.own] ++ ([u32v s.turns] ++ ([u32v s.sent] ++ ([u32v s.got] ++ ([u32v s.prev] ++ ([u32v s.ser] ++ (s.hl.cs ++ s.bind.map byt)))))))))))
theorem Sg.c_root : s.cs = s.a_root ++ (s.root.map byt ++ s.b_root) := by simp [Sg.cs, Sg.a_root, Sg.b_root]
theorem Sg.l_root (k : s.ok) : s.a_root.length = 16 := by simp [Sg.a_root, k.sid]
def Sg.a_pri (s : Sg) : List Value := s.sid.map byt ++ s.root.map byt
def Sg.b_pri (s : Sg) : List Value := s.pub.map byt ++ (s.peer.map byt ++ (s.sk.map byt ++ (s.rk.map byt ++ ([u32v s.own] ++ ([u32v s.turns] ++ ([u32v s.sent] ++ ([u32v s.got] ++ ([u32v s.prev] ++ ([u32v s.ser] ++ (s.hl.cs ++ s.bind.map byt))))))))))
theorem Sg.c_pri : s.cs = s.a_pri ++ (s.pri.map byt ++ s.b_pri) := by simp [Sg.cs, Sg.a_pri, Sg.b_pri]
theorem Sg.l_pri (k : s.ok) : s.a_pri.length = 48 := by simp [Sg.a_pri, k.sid, k.root]
def Sg.a_pub (s : Sg) : List Value := s.sid.map byt ++ (s.root.map byt ++ s.pri.map byt)
def Sg.b_pub (s : Sg) : List Value := s.peer.map byt ++ (s.sk.map byt ++ (s.rk.map byt ++ ([u32v s.own] ++ ([u32v s.turns] ++ ([u32v s.sent] ++ ([u32v s.got] ++ ([u32v s.prev] ++ ([u32v s.ser] ++ (s.hl.cs ++ s.bind.map byt)))))))))
theorem Sg.c_pub : s.cs = s.a_pub ++ (s.pub.map byt ++ s.b_pub) := by simp [Sg.cs, Sg.a_pub, Sg.b_pub]
theorem Sg.l_pub (k : s.ok) : s.a_pub.length = 80 := by simp [Sg.a_pub, k.sid, k.root, k.pri]
def Sg.a_peer (s : Sg) : List Value := s.sid.map byt ++ (s.root.map byt ++ (s.pri.map byt ++ s.pub.map byt))
def Sg.b_peer (s : Sg) : List Value := s.sk.map byt ++ (s.rk.map byt ++ ([u32v s.own] ++ ([u32v s.turns] ++ ([u32v s.sent] ++ ([u32v s.got] ++ ([u32v s.prev] ++ ([u32v s.ser] ++ (s.hl.cs ++ s.bind.map byt))))))))
theorem Sg.c_peer : s.cs = s.a_peer ++ (s.peer.map byt ++ s.b_peer) := by simp [Sg.cs, Sg.a_peer, Sg.b_peer]
theorem Sg.l_peer (k : s.ok) : s.a_peer.length = 112 := by simp [Sg.a_peer, k.sid, k.root, k.pri, k.pub]
def Sg.a_sk (s : Sg) : List Value := s.sid.map byt ++ (s.root.map byt ++ (s.pri.map byt ++ (s.pub.map byt ++ s.peer.map byt)))
def Sg.b_sk (s : Sg) : List Value := s.rk.map byt ++ ([u32v s.own] ++ ([u32v s.turns] ++ ([u32v s.sent] ++ ([u32v s.got] ++ ([u32v s.prev] ++ ([u32v s.ser] ++ (s.hl.cs ++ s.bind.map byt)))))))
theorem Sg.c_sk : s.cs = s.a_sk ++ (s.sk.map byt ++ s.b_sk) := by simp [Sg.cs, Sg.a_sk, Sg.b_sk]
theorem Sg.l_sk (k : s.ok) : s.a_sk.length = 144 := by simp [Sg.a_sk, k.sid, k.root, k.pri, k.pub, k.peer]
def Sg.a_rk (s : Sg) : List Value := s.sid.map byt ++ (s.root.map byt ++ (s.pri.map byt ++ (s.pub.map byt ++ (s.peer.map byt ++ s.sk.map byt))))
def Sg.b_rk (s : Sg) : List Value := [u32v s.own] ++ ([u32v s.turns] ++ ([u32v s.sent] ++ ([u32v s.got] ++ ([u32v s.prev] ++ ([u32v s.ser] ++ (s.hl.cs ++ s.bind.map byt))))))
theorem Sg.c_rk : s.cs = s.a_rk ++ (s.rk.map byt ++ s.b_rk) := by simp [Sg.cs, Sg.a_rk, Sg.b_rk]
theorem Sg.l_rk (k : s.ok) : s.a_rk.length = 176 := by simp [Sg.a_rk, k.sid, k.root, k.pri, k.pub, k.peer, k.sk]
def Sg.a_own (s : Sg) : List Value := s.sid.map byt ++ (s.root.map byt ++ (s.pri.map byt ++ (s.pub.map byt ++ (s.peer.map byt ++ (s.sk.map byt ++ s.rk.map byt)))))
def Sg.b_own (s : Sg) : List Value := [u32v s.turns] ++ ([u32v s.sent] ++ ([u32v s.got] ++ ([u32v s.prev] ++ ([u32v s.ser] ++ (s.hl.cs ++ s.bind.map byt)))))
theorem Sg.c_own : s.cs = s.a_own ++ ([u32v s.own] ++ s.b_own) := by simp [Sg.cs, Sg.a_own, Sg.b_own]
theorem Sg.l_own (k : s.ok) : s.a_own.length = 208 := by simp [Sg.a_own, k.sid, k.root, k.pri, k.pub, k.peer, k.sk, k.rk]
def Sg.a_turns (s : Sg) : List Value := s.sid.map byt ++ (s.root.map byt ++ (s.pri.map byt ++ (s.pub.map byt ++ (s.peer.map byt ++ (s.sk.map byt ++ (s.rk.map byt ++ [u32v s.own]))))))
def Sg.b_turns (s : Sg) : List Value := [u32v s.sent] ++ ([u32v s.got] ++ ([u32v s.prev] ++ ([u32v s.ser] ++ (s.hl.cs ++ s.bind.map byt))))
theorem Sg.c_turns : s.cs = s.a_turns ++ ([u32v s.turns] ++ s.b_turns) := by simp [Sg.cs, Sg.a_turns, Sg.b_turns]
theorem Sg.l_turns (k : s.ok) : s.a_turns.length = 209 := by simp [Sg.a_turns, k.sid, k.root, k.pri, k.pub, k.peer, k.sk, k.rk]
def Sg.a_sent (s : Sg) : List Value := s.sid.map byt ++ (s.root.map byt ++ (s.pri.map byt ++ (s.pub.map byt ++ (s.peer.map byt ++ (s.sk.map byt ++ (s.rk.map byt ++ ([u32v s.own] ++ [u32v s.turns])))))))
def Sg.b_sent (s : Sg) : List Value := [u32v s.got] ++ ([u32v s.prev] ++ ([u32v s.ser] ++ (s.hl.cs ++ s.bind.map byt)))
theorem Sg.c_sent : s.cs = s.a_sent ++ ([u32v s.sent] ++ s.b_sent) := by simp [Sg.cs, Sg.a_sent, Sg.b_sent]
theorem Sg.l_sent (k : s.ok) : s.a_sent.length = 210 := by simp [Sg.a_sent, k.sid, k.root, k.pri, k.pub, k.peer, k.sk, k.rk]
def Sg.a_got (s : Sg) : List Value := s.sid.map byt ++ (s.root.map byt ++ (s.pri.map byt ++ (s.pub.map byt ++ (s.peer.map byt ++ (s.sk.map byt ++ (s.rk.map byt ++ ([u32v s.own] ++ ([u32v s.turns] ++ [u32v s.sent]))))))))
def Sg.b_got (s : Sg) : List Value := [u32v s.prev] ++ ([u32v s.ser] ++ (s.hl.cs ++ s.bind.map byt))
theorem Sg.c_got : s.cs = s.a_got ++ ([u32v s.got] ++ s.b_got) := by simp [Sg.cs, Sg.a_got, Sg.b_got]
theorem Sg.l_got (k : s.ok) : s.a_got.length = 211 := by simp [Sg.a_got, k.sid, k.root, k.pri, k.pub, k.peer, k.sk, k.rk]
def Sg.a_prev (s : Sg) : List Value := s.sid.map byt ++ (s.root.map byt ++ (s.pri.map byt ++ (s.pub.map byt ++ (s.peer.map byt ++ (s.sk.map byt ++ (s.rk.map byt ++ ([u32v s.own] ++ ([u32v s.turns] ++ ([u32v s.sent] ++ [u32v s.got])))))))))
def Sg.b_prev (s : Sg) : List Value := [u32v s.ser] ++ (s.hl.cs ++ s.bind.map byt)
theorem Sg.c_prev : s.cs = s.a_prev ++ ([u32v s.prev] ++ s.b_prev) := by simp [Sg.cs, Sg.a_prev, Sg.b_prev]
theorem Sg.l_prev (k : s.ok) : s.a_prev.length = 212 := by simp [Sg.a_prev, k.sid, k.root, k.pri, k.pub, k.peer, k.sk, k.rk]
def Sg.a_ser (s : Sg) : List Value := s.sid.map byt ++ (s.root.map byt ++ (s.pri.map byt ++ (s.pub.map byt ++ (s.peer.map byt ++ (s.sk.map byt ++ (s.rk.map byt ++ ([u32v s.own] ++ ([u32v s.turns] ++ ([u32v s.sent] ++ ([u32v s.got] ++ [u32v s.prev]))))))))))
def Sg.b_ser (s : Sg) : List Value := s.hl.cs ++ s.bind.map byt
theorem Sg.c_ser : s.cs = s.a_ser ++ ([u32v s.ser] ++ s.b_ser) := by simp [Sg.cs, Sg.a_ser, Sg.b_ser]
theorem Sg.l_ser (k : s.ok) : s.a_ser.length = 213 := by simp [Sg.a_ser, k.sid, k.root, k.pri, k.pub, k.peer, k.sk, k.rk]
def Sg.a_hl (s : Sg) : List Value := s.sid.map byt ++ (s.root.map byt ++ (s.pri.map byt ++ (s.pub.map byt ++ (s.peer.map byt ++ (s.sk.map byt ++ (s.rk.map byt ++ ([u32v s.own] ++ ([u32v s.turns] ++ ([u32v s.sent] ++ ([u32v s.got] ++ ([u32v s.prev] ++ [u32v s.ser])))))))))))
def Sg.b_hl (s : Sg) : List Value := s.bind.map byt
theorem Sg.c_hl : s.cs = s.a_hl ++ (s.hl.cs ++ s.b_hl) := by simp [Sg.cs, Sg.a_hl, Sg.b_hl]
theorem Sg.l_hl (k : s.ok) : s.a_hl.length = 214 := by simp [Sg.a_hl, k.sid, k.root, k.pri, k.pub, k.peer, k.sk, k.rk]
def Sg.a_bind (s : Sg) : List Value := s.sid.map byt ++ (s.root.map byt ++ (s.pri.map byt ++ (s.pub.map byt ++ (s.peer.map byt ++ (s.sk.map byt ++ (s.rk.map byt ++ ([u32v s.own] ++ ([u32v s.turns] ++ ([u32v s.sent] ++ ([u32v s.got] ++ ([u32v s.prev] ++ ([u32v s.ser] ++ s.hl.cs))))))))))))
def Sg.b_bind (s : Sg) : List Value := []
theorem Sg.c_bind : s.cs = s.a_bind ++ (s.bind.map byt ++ s.b_bind) := by simp [Sg.cs, Sg.a_bind, Sg.b_bind]
theorem Sg.l_bind (k : s.ok) : s.a_bind.length = 279 := by simp [Sg.a_bind, k.sid, k.root, k.pri, k.pub, k.peer, k.sk, k.rk, Hl.len k.hl]
end
section
variable {w : World} {q : Nat} {s : Sg} {t : TypeId}
theorem Sg.has_sid (hb : Blk w q s.cs t) (k : s.ok) : Has w (.slice (some ⟨q, 0, none⟩) 16 16) s.sid := by
  have h := hb.has (K := s.sid) Sg.c_sid (Sg.l_sid k) 16 (by rw [k.sid]; decide)
  rw [k.sid] at h
  exact h
theorem Sg.ok.s_sid (k : s.ok) {x : List UInt8} (hx : x.length = 16) : Sg.ok { s with sid := x } := { k with sid := hx }
theorem Sg.has_root (hb : Blk w q s.cs t) (k : s.ok) : Has w (.slice (some ⟨q, 16, none⟩) 32 32) s.root := by
  have h := hb.has (K := s.root) Sg.c_root (Sg.l_root k) 32 (by rw [k.root]; decide)
  rw [k.root] at h
  exact h
theorem Sg.st_root (hb : Blk w q s.cs t) (k : s.ok) {x : List UInt8} (hx : x.length = 32) : ∃ w', (Instr.storeAt 25 (.pointer (some ⟨q, 16, none⟩)) (kv x)).run Try.prog w = .ok () w' ∧ Blk w' q (Sg.cs { s with root := x }) t ∧ Fx (fun k => k = q) w w' := by
  obtain ⟨w', h1, h2, h3⟩ := hb.stA (ty := 25) (vs := x.map byt) (i25 hx) (byts_one' _) Sg.c_root (Sg.l_root k) (by simp [k.root, hx])
  exact ⟨w', h1, by rw [Sg.c_root]; exact h2, h3⟩
theorem Sg.ok.s_root (k : s.ok) {x : List UInt8} (hx : x.length = 32) : Sg.ok { s with root := x } := { k with root := hx }
theorem Sg.has_pri (hb : Blk w q s.cs t) (k : s.ok) : Has w (.slice (some ⟨q, 48, none⟩) 32 32) s.pri := by
  have h := hb.has (K := s.pri) Sg.c_pri (Sg.l_pri k) 32 (by rw [k.pri]; decide)
  rw [k.pri] at h
  exact h
theorem Sg.st_pri (hb : Blk w q s.cs t) (k : s.ok) {x : List UInt8} (hx : x.length = 32) : ∃ w', (Instr.storeAt 25 (.pointer (some ⟨q, 48, none⟩)) (kv x)).run Try.prog w = .ok () w' ∧ Blk w' q (Sg.cs { s with pri := x }) t ∧ Fx (fun k => k = q) w w' := by
  obtain ⟨w', h1, h2, h3⟩ := hb.stA (ty := 25) (vs := x.map byt) (i25 hx) (byts_one' _) Sg.c_pri (Sg.l_pri k) (by simp [k.pri, hx])
  exact ⟨w', h1, by rw [Sg.c_pri]; exact h2, h3⟩
theorem Sg.ok.s_pri (k : s.ok) {x : List UInt8} (hx : x.length = 32) : Sg.ok { s with pri := x } := { k with pri := hx }
theorem Sg.has_pub (hb : Blk w q s.cs t) (k : s.ok) : Has w (.slice (some ⟨q, 80, none⟩) 32 32) s.pub := by
  have h := hb.has (K := s.pub) Sg.c_pub (Sg.l_pub k) 32 (by rw [k.pub]; decide)
  rw [k.pub] at h
  exact h
theorem Sg.st_pub (hb : Blk w q s.cs t) (k : s.ok) {x : List UInt8} (hx : x.length = 32) : ∃ w', (Instr.storeAt 25 (.pointer (some ⟨q, 80, none⟩)) (kv x)).run Try.prog w = .ok () w' ∧ Blk w' q (Sg.cs { s with pub := x }) t ∧ Fx (fun k => k = q) w w' := by
  obtain ⟨w', h1, h2, h3⟩ := hb.stA (ty := 25) (vs := x.map byt) (i25 hx) (byts_one' _) Sg.c_pub (Sg.l_pub k) (by simp [k.pub, hx])
  exact ⟨w', h1, by rw [Sg.c_pub]; exact h2, h3⟩
theorem Sg.ok.s_pub (k : s.ok) {x : List UInt8} (hx : x.length = 32) : Sg.ok { s with pub := x } := { k with pub := hx }
theorem Sg.has_peer (hb : Blk w q s.cs t) (k : s.ok) : Has w (.slice (some ⟨q, 112, none⟩) 32 32) s.peer := by
  have h := hb.has (K := s.peer) Sg.c_peer (Sg.l_peer k) 32 (by rw [k.peer]; decide)
  rw [k.peer] at h
  exact h
theorem Sg.st_peer (hb : Blk w q s.cs t) (k : s.ok) {x : List UInt8} (hx : x.length = 32) : ∃ w', (Instr.storeAt 25 (.pointer (some ⟨q, 112, none⟩)) (kv x)).run Try.prog w = .ok () w' ∧ Blk w' q (Sg.cs { s with peer := x }) t ∧ Fx (fun k => k = q) w w' := by
  obtain ⟨w', h1, h2, h3⟩ := hb.stA (ty := 25) (vs := x.map byt) (i25 hx) (byts_one' _) Sg.c_peer (Sg.l_peer k) (by simp [k.peer, hx])
  exact ⟨w', h1, by rw [Sg.c_peer]; exact h2, h3⟩
theorem Sg.ok.s_peer (k : s.ok) {x : List UInt8} (hx : x.length = 32) : Sg.ok { s with peer := x } := { k with peer := hx }
theorem Sg.ld_sk (hb : Blk w q s.cs t) (k : s.ok) : (Instr.loadAt 25 (.pointer (some ⟨q, 144, none⟩))).run Try.prog w = .ok (kv s.sk) w := hb.ldA Try.underlying25 rfl (i25 k.sk) Sg.c_sk (Sg.l_sk k)
theorem Sg.has_sk (hb : Blk w q s.cs t) (k : s.ok) : Has w (.slice (some ⟨q, 144, none⟩) 32 32) s.sk := by
  have h := hb.has (K := s.sk) Sg.c_sk (Sg.l_sk k) 32 (by rw [k.sk]; decide)
  rw [k.sk] at h
  exact h
theorem Sg.st_sk (hb : Blk w q s.cs t) (k : s.ok) {x : List UInt8} (hx : x.length = 32) : ∃ w', (Instr.storeAt 25 (.pointer (some ⟨q, 144, none⟩)) (kv x)).run Try.prog w = .ok () w' ∧ Blk w' q (Sg.cs { s with sk := x }) t ∧ Fx (fun k => k = q) w w' := by
  obtain ⟨w', h1, h2, h3⟩ := hb.stA (ty := 25) (vs := x.map byt) (i25 hx) (byts_one' _) Sg.c_sk (Sg.l_sk k) (by simp [k.sk, hx])
  exact ⟨w', h1, by rw [Sg.c_sk]; exact h2, h3⟩
theorem Sg.ok.s_sk (k : s.ok) {x : List UInt8} (hx : x.length = 32) : Sg.ok { s with sk := x } := { k with sk := hx }
theorem Sg.ld_rk (hb : Blk w q s.cs t) (k : s.ok) : (Instr.loadAt 25 (.pointer (some ⟨q, 176, none⟩))).run Try.prog w = .ok (kv s.rk) w := hb.ldA Try.underlying25 rfl (i25 k.rk) Sg.c_rk (Sg.l_rk k)
theorem Sg.has_rk (hb : Blk w q s.cs t) (k : s.ok) : Has w (.slice (some ⟨q, 176, none⟩) 32 32) s.rk := by
  have h := hb.has (K := s.rk) Sg.c_rk (Sg.l_rk k) 32 (by rw [k.rk]; decide)
  rw [k.rk] at h
  exact h
theorem Sg.st_rk (hb : Blk w q s.cs t) (k : s.ok) {x : List UInt8} (hx : x.length = 32) : ∃ w', (Instr.storeAt 25 (.pointer (some ⟨q, 176, none⟩)) (kv x)).run Try.prog w = .ok () w' ∧ Blk w' q (Sg.cs { s with rk := x }) t ∧ Fx (fun k => k = q) w w' := by
  obtain ⟨w', h1, h2, h3⟩ := hb.stA (ty := 25) (vs := x.map byt) (i25 hx) (byts_one' _) Sg.c_rk (Sg.l_rk k) (by simp [k.rk, hx])
  exact ⟨w', h1, by rw [Sg.c_rk]; exact h2, h3⟩
theorem Sg.ok.s_rk (k : s.ok) {x : List UInt8} (hx : x.length = 32) : Sg.ok { s with rk := x } := { k with rk := hx }
theorem Sg.ld_own (hb : Blk w q s.cs t) (k : s.ok) : (Instr.loadAt 28 (.pointer (some ⟨q, 208, none⟩))).run Try.prog w = .ok (u32v s.own) w := hb.ldU Sg.c_own (Sg.l_own k)
theorem Sg.st_own (hb : Blk w q s.cs t) (k : s.ok) (x : Nat) : ∃ w', (Instr.storeAt 28 (.pointer (some ⟨q, 208, none⟩)) (u32v x)).run Try.prog w = .ok () w' ∧ Blk w' q (Sg.cs { s with own := x }) t ∧ Fx (fun k => k = q) w w' := by
  obtain ⟨w', h1, h2, h3⟩ := hb.stU Sg.c_own (Sg.l_own k) x
  exact ⟨w', h1, by rw [Sg.c_own]; exact h2, h3⟩
theorem Sg.ok.s_own (k : s.ok) {x : Nat} (hx : x < 4294967296) : Sg.ok { s with own := x } := { k with own := hx }
theorem Sg.ld_turns (hb : Blk w q s.cs t) (k : s.ok) : (Instr.loadAt 28 (.pointer (some ⟨q, 209, none⟩))).run Try.prog w = .ok (u32v s.turns) w := hb.ldU Sg.c_turns (Sg.l_turns k)
theorem Sg.st_turns (hb : Blk w q s.cs t) (k : s.ok) (x : Nat) : ∃ w', (Instr.storeAt 28 (.pointer (some ⟨q, 209, none⟩)) (u32v x)).run Try.prog w = .ok () w' ∧ Blk w' q (Sg.cs { s with turns := x }) t ∧ Fx (fun k => k = q) w w' := by
  obtain ⟨w', h1, h2, h3⟩ := hb.stU Sg.c_turns (Sg.l_turns k) x
  exact ⟨w', h1, by rw [Sg.c_turns]; exact h2, h3⟩
theorem Sg.ok.s_turns (k : s.ok) {x : Nat} (hx : x < 4294967296) : Sg.ok { s with turns := x } := { k with turns := hx }
theorem Sg.ld_sent (hb : Blk w q s.cs t) (k : s.ok) : (Instr.loadAt 28 (.pointer (some ⟨q, 210, none⟩))).run Try.prog w = .ok (u32v s.sent) w := hb.ldU Sg.c_sent (Sg.l_sent k)
theorem Sg.st_sent (hb : Blk w q s.cs t) (k : s.ok) (x : Nat) : ∃ w', (Instr.storeAt 28 (.pointer (some ⟨q, 210, none⟩)) (u32v x)).run Try.prog w = .ok () w' ∧ Blk w' q (Sg.cs { s with sent := x }) t ∧ Fx (fun k => k = q) w w' := by
  obtain ⟨w', h1, h2, h3⟩ := hb.stU Sg.c_sent (Sg.l_sent k) x
  exact ⟨w', h1, by rw [Sg.c_sent]; exact h2, h3⟩
theorem Sg.ok.s_sent (k : s.ok) {x : Nat} (hx : x < 4294967296) : Sg.ok { s with sent := x } := { k with sent := hx }
theorem Sg.ld_got (hb : Blk w q s.cs t) (k : s.ok) : (Instr.loadAt 28 (.pointer (some ⟨q, 211, none⟩))).run Try.prog w = .ok (u32v s.got) w := hb.ldU Sg.c_got (Sg.l_got k)
theorem Sg.st_got (hb : Blk w q s.cs t) (k : s.ok) (x : Nat) : ∃ w', (Instr.storeAt 28 (.pointer (some ⟨q, 211, none⟩)) (u32v x)).run Try.prog w = .ok () w' ∧ Blk w' q (Sg.cs { s with got := x }) t ∧ Fx (fun k => k = q) w w' := by
  obtain ⟨w', h1, h2, h3⟩ := hb.stU Sg.c_got (Sg.l_got k) x
  exact ⟨w', h1, by rw [Sg.c_got]; exact h2, h3⟩
theorem Sg.ok.s_got (k : s.ok) {x : Nat} (hx : x < 4294967296) : Sg.ok { s with got := x } := { k with got := hx }
theorem Sg.ld_prev (hb : Blk w q s.cs t) (k : s.ok) : (Instr.loadAt 28 (.pointer (some ⟨q, 212, none⟩))).run Try.prog w = .ok (u32v s.prev) w := hb.ldU Sg.c_prev (Sg.l_prev k)
theorem Sg.st_prev (hb : Blk w q s.cs t) (k : s.ok) (x : Nat) : ∃ w', (Instr.storeAt 28 (.pointer (some ⟨q, 212, none⟩)) (u32v x)).run Try.prog w = .ok () w' ∧ Blk w' q (Sg.cs { s with prev := x }) t ∧ Fx (fun k => k = q) w w' := by
  obtain ⟨w', h1, h2, h3⟩ := hb.stU Sg.c_prev (Sg.l_prev k) x
  exact ⟨w', h1, by rw [Sg.c_prev]; exact h2, h3⟩
theorem Sg.ok.s_prev (k : s.ok) {x : Nat} (hx : x < 4294967296) : Sg.ok { s with prev := x } := { k with prev := hx }
theorem Sg.ld_ser (hb : Blk w q s.cs t) (k : s.ok) : (Instr.loadAt 28 (.pointer (some ⟨q, 213, none⟩))).run Try.prog w = .ok (u32v s.ser) w := hb.ldU Sg.c_ser (Sg.l_ser k)
theorem Sg.st_ser (hb : Blk w q s.cs t) (k : s.ok) (x : Nat) : ∃ w', (Instr.storeAt 28 (.pointer (some ⟨q, 213, none⟩)) (u32v x)).run Try.prog w = .ok () w' ∧ Blk w' q (Sg.cs { s with ser := x }) t ∧ Fx (fun k => k = q) w w' := by
  obtain ⟨w', h1, h2, h3⟩ := hb.stU Sg.c_ser (Sg.l_ser k) x
  exact ⟨w', h1, by rw [Sg.c_ser]; exact h2, h3⟩
theorem Sg.ok.s_ser (k : s.ok) {x : Nat} (hx : x < 4294967296) : Sg.ok { s with ser := x } := { k with ser := hx }
theorem Sg.ld_hl (hb : Blk w q s.cs t) (k : s.ok) : (Instr.loadAt 30 (.pointer (some ⟨q, 214, none⟩))).run Try.prog w = .ok s.hl.v w := hb.ldA Try.underlying30 rfl (i30 k.hl) Sg.c_hl (Sg.l_hl k)
theorem Sg.st_hl (hb : Blk w q s.cs t) (k : s.ok) {x : Hl} (hx : x.ok) : ∃ w', (Instr.storeAt 30 (.pointer (some ⟨q, 214, none⟩)) x.v).run Try.prog w = .ok () w' ∧ Blk w' q (Sg.cs { s with hl := x }) t ∧ Fx (fun k => k = q) w w' := by
  obtain ⟨w', h1, h2, h3⟩ := hb.stA (ty := 30) (vs := x.cs) (i30 hx) x.one Sg.c_hl (Sg.l_hl k) (by rw [Hl.len k.hl, Hl.len hx])
  exact ⟨w', h1, by rw [Sg.c_hl]; exact h2, h3⟩
theorem Sg.ok.s_hl (k : s.ok) {x : Hl} (hx : x.ok) : Sg.ok { s with hl := x } := { k with hl := hx }
theorem Sg.has_bind (hb : Blk w q s.cs t) (k : s.ok) : Has w (.slice (some ⟨q, 279, none⟩) 64 64) s.bind := by
  have h := hb.has (K := s.bind) Sg.c_bind (Sg.l_bind k) 64 (by rw [k.bind]; decide)
  rw [k.bind] at h
  exact h
theorem Sg.ok.s_bind (k : s.ok) {x : List UInt8} (hx : x.length = 64) : Sg.ok { s with bind := x } := { k with bind := hx }
theorem Sg.c_hid : s.cs = s.a_hl ++ (s.hl.id.map byt ++ (s.hl.once.map byt ++ ([u32v s.hl.pre] ++ s.b_hl))) := by rw [Sg.c_hl]; simp [Hl.cs]
theorem Sg.ld_hid (hb : Blk w q s.cs t) (k : s.ok) : (Instr.loadAt 25 (.pointer (some ⟨q, 214 + 0, none⟩))).run Try.prog w = .ok (kv s.hl.id) w := hb.ldA u25 rfl (i25 k.hl.i) Sg.c_hid (Sg.l_hl k)
theorem Sg.st_hid (hb : Blk w q s.cs t) (k : s.ok) {x : List UInt8} (hx : x.length = 32) : ∃ w', (Instr.storeAt 25 (.pointer (some ⟨q, 214 + 0, none⟩)) (kv x)).run Try.prog w = .ok () w' ∧ Blk w' q (Sg.cs { s with hl := { s.hl with id := x } }) t ∧ Fx (fun k => k = q) w w' := by
  obtain ⟨w', h1, h2, h3⟩ := hb.stA (ty := 25) (vs := x.map byt) (i25 hx) (byts_one' _) Sg.c_hid (Sg.l_hl k) (by simp [k.hl.i, hx])
  exact ⟨w', h1, by rw [Sg.c_hid]; exact h2, h3⟩
theorem Sg.st_honce (hb : Blk w q s.cs t) (k : s.ok) {x : List UInt8} (hx : x.length = 32) : ∃ w', (Instr.storeAt 25 (.pointer (some ⟨q, 214 + 32, none⟩)) (kv x)).run Try.prog w = .ok () w' ∧ Blk w' q (Sg.cs { s with hl := { s.hl with once := x } }) t ∧ Fx (fun k => k = q) w w' := by
  obtain ⟨w', h1, h2, h3⟩ := hb.stA (ty := 25) (vs := x.map byt) (o := 214 + 32) (a := s.a_hl ++ s.hl.id.map byt) (m := s.hl.once.map byt) (b := [u32v s.hl.pre] ++ s.b_hl) (i25 hx) (byts_one' _) (by rw [Sg.c_hid]; simp) (by simp [Sg.l_hl k, k.hl.i]) (by simp [k.hl.o, hx])
  refine ⟨w', h1, ?_, h3⟩
  rw [Sg.c_hid]
  simpa [Sg.a_hl, Sg.b_hl] using h2
theorem Sg.st_hpre (hb : Blk w q s.cs t) (k : s.ok) (x : Nat) : ∃ w', (Instr.storeAt 28 (.pointer (some ⟨q, 214 + 64, none⟩)) (u32v x)).run Try.prog w = .ok () w' ∧ Blk w' q (Sg.cs { s with hl := { s.hl with pre := x } }) t ∧ Fx (fun k => k = q) w w' := by
  obtain ⟨w', h1, h2, h3⟩ := hb.stU (x := u32v s.hl.pre) (o := 214 + 64) (a := s.a_hl ++ (s.hl.id.map byt ++ s.hl.once.map byt)) (b := s.b_hl) (by rw [Sg.c_hid]; simp) (by simp [Sg.l_hl k, k.hl.i, k.hl.o]) x
  refine ⟨w', h1, ?_, h3⟩
  rw [Sg.c_hid]
  simpa [Sg.a_hl, Sg.b_hl] using h2
theorem Sg.ld (hb : Blk w q s.cs t) (k : s.ok) : (Instr.loadAt 33 (.pointer (some ⟨q, 0, none⟩))).run Try.prog w = .ok s.v w := run_loadR hb Try.underlying33 rfl (i33 k)
theorem Sg.st {r : Sg} (hb : Blk w q r.cs t) (kr : r.ok) (k : s.ok) : ∃ w', (Instr.storeAt 33 (.pointer (some ⟨q, 0, none⟩)) s.v).run Try.prog w = .ok () w' ∧ Blk w' q s.cs t ∧ Fx (fun k => k = q) w w' := by
  obtain ⟨w', h1, h2, h3⟩ := hb.stA (o := 0) (a := []) (b := []) (m := r.cs) (ty := 33) (vs := s.cs) (i33 k) s.one (by simp) rfl (by rw [Sg.len kr, Sg.len k])
  exact ⟨w', h1, by simpa using h2, h3⟩
end
theorem u_lt_t {n m : Nat} (h : n < m) (W : World) (x y : Operand) : (do eqGuard .lss 28 x y (u32v n) (u32v m); binOp .lss 28 (u32v n) (u32v m) : Sem Value).run Try.prog W = .ok (.bool true) W := by
  unfold u32v
  go_simp
  try omega
theorem u_lt_f {n m : Nat} (h : ¬ (n < m)) (W : World) (x y : Operand) : (do eqGuard .lss 28 x y (u32v n) (u32v m); binOp .lss 28 (u32v n) (u32v m) : Sem Value).run Try.prog W = .ok (.bool false) W := by
  unfold u32v
  go_simp
  try omega
theorem u_lt_d (n m : Nat) (W : World) (x y : Operand) : (do eqGuard .lss 28 x y (u32v n) (u32v m); binOp .lss 28 (u32v n) (u32v m) : Sem Value).run Try.prog W = .ok (.bool (decide (n < m))) W := by
  by_cases h : n < m
  · rw [decide_eq_true h]; exact u_lt_t h W x y
  · rw [decide_eq_false h]; exact u_lt_f h W x y
theorem u_gt_t {n m : Nat} (h : m < n) (W : World) (x y : Operand) : (do eqGuard .gtr 28 x y (u32v n) (u32v m); binOp .gtr 28 (u32v n) (u32v m) : Sem Value).run Try.prog W = .ok (.bool true) W := by
  unfold u32v
  go_simp
  try omega
theorem u_gt_f {n m : Nat} (h : ¬ (m < n)) (W : World) (x y : Operand) : (do eqGuard .gtr 28 x y (u32v n) (u32v m); binOp .gtr 28 (u32v n) (u32v m) : Sem Value).run Try.prog W = .ok (.bool false) W := by
  unfold u32v
  go_simp
  try omega
theorem u_gt_d (n m : Nat) (W : World) (x y : Operand) : (do eqGuard .gtr 28 x y (u32v n) (u32v m); binOp .gtr 28 (u32v n) (u32v m) : Sem Value).run Try.prog W = .ok (.bool (decide (m < n))) W := by
  by_cases h : m < n
  · rw [decide_eq_true h]; exact u_gt_t h W x y
  · rw [decide_eq_false h]; exact u_gt_f h W x y
theorem u_le_t {n m : Nat} (h : n ≤ m) (W : World) (x y : Operand) : (do eqGuard .leq 28 x y (u32v n) (u32v m); binOp .leq 28 (u32v n) (u32v m) : Sem Value).run Try.prog W = .ok (.bool true) W := by
  unfold u32v
  go_simp
  try omega
theorem u_le_f {n m : Nat} (h : ¬ (n ≤ m)) (W : World) (x y : Operand) : (do eqGuard .leq 28 x y (u32v n) (u32v m); binOp .leq 28 (u32v n) (u32v m) : Sem Value).run Try.prog W = .ok (.bool false) W := by
  unfold u32v
  go_simp
  try omega
theorem u_le_d (n m : Nat) (W : World) (x y : Operand) : (do eqGuard .leq 28 x y (u32v n) (u32v m); binOp .leq 28 (u32v n) (u32v m) : Sem Value).run Try.prog W = .ok (.bool (decide (n ≤ m))) W := by
  by_cases h : n ≤ m
  · rw [decide_eq_true h]; exact u_le_t h W x y
  · rw [decide_eq_false h]; exact u_le_f h W x y
theorem u_ge_t {n m : Nat} (h : m ≤ n) (W : World) (x y : Operand) : (do eqGuard .geq 28 x y (u32v n) (u32v m); binOp .geq 28 (u32v n) (u32v m) : Sem Value).run Try.prog W = .ok (.bool true) W := by
  unfold u32v
  go_simp
  try omega
theorem u_ge_f {n m : Nat} (h : ¬ (m ≤ n)) (W : World) (x y : Operand) : (do eqGuard .geq 28 x y (u32v n) (u32v m); binOp .geq 28 (u32v n) (u32v m) : Sem Value).run Try.prog W = .ok (.bool false) W := by
  unfold u32v
  go_simp
  try omega
theorem u_ge_d (n m : Nat) (W : World) (x y : Operand) : (do eqGuard .geq 28 x y (u32v n) (u32v m); binOp .geq 28 (u32v n) (u32v m) : Sem Value).run Try.prog W = .ok (.bool (decide (m ≤ n))) W := by
  by_cases h : m ≤ n
  · rw [decide_eq_true h]; exact u_ge_t h W x y
  · rw [decide_eq_false h]; exact u_ge_f h W x y
theorem u_eq_t {n m : Nat} (h : n = m) (W : World) (x y : Operand) : (do eqGuard .eql 28 x y (u32v n) (u32v m); binOp .eql 28 (u32v n) (u32v m) : Sem Value).run Try.prog W = .ok (.bool true) W := by
  unfold u32v
  go_simp
  try omega
theorem u_eq_f {n m : Nat} (h : ¬ (n = m)) (W : World) (x y : Operand) : (do eqGuard .eql 28 x y (u32v n) (u32v m); binOp .eql 28 (u32v n) (u32v m) : Sem Value).run Try.prog W = .ok (.bool false) W := by
  unfold u32v
  go_simp
  try omega
theorem u_eq_d (n m : Nat) (W : World) (x y : Operand) : (do eqGuard .eql 28 x y (u32v n) (u32v m); binOp .eql 28 (u32v n) (u32v m) : Sem Value).run Try.prog W = .ok (.bool (decide (n = m))) W := by
  by_cases h : n = m
  · rw [decide_eq_true h]; exact u_eq_t h W x y
  · rw [decide_eq_false h]; exact u_eq_f h W x y
theorem u_ne_t {n m : Nat} (h : ¬ n = m) (W : World) (x y : Operand) : (do eqGuard .neq 28 x y (u32v n) (u32v m); binOp .neq 28 (u32v n) (u32v m) : Sem Value).run Try.prog W = .ok (.bool true) W := by
  unfold u32v
  go_simp
  try omega
theorem u_ne_f {n m : Nat} (h : ¬ (¬ n = m)) (W : World) (x y : Operand) : (do eqGuard .neq 28 x y (u32v n) (u32v m); binOp .neq 28 (u32v n) (u32v m) : Sem Value).run Try.prog W = .ok (.bool false) W := by
  unfold u32v
  go_simp
  try omega
end Go.Proofs.Ytacimelcmkhhlaa
