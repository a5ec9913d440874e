import Derived.Test.YtngoolkojnoplaaLxKnown
import Derived.Test.YtngoolkojnoplaaLxName
import Derived.Test.YtngoolkojnoplaaLxKin
namespace Go.Proofs.Ytngoolkojnoplaa.lexCovers
open Go.RowKit Go.Proofs.Ytngoolkojnoplaa.Sp Go.Proofs.Ytngoolkojnoplaa.Lx

/-- a region of a text, by its number -/
def fr (n : Nat) : Code → Option Code
  | .region k ops d => if k = n then some (.region k ops d) else none
  | .seq a b => match fr n a with
    | some c => some c
    | none => fr n b
  | .block _ c => fr n c
  | .scope c => fr n c
  | .cond _ a b => match fr n a with
    | some c => some c
    | none => fr n b
  | .loop c => fr n c
  | _ => none

set_option maxHeartbeats 64000000 in
set_option maxRecDepth 100000 in
/-- the last region of a round -/
theorem last (K : Act → World → Prop) (Q : Exit → Act → World → Prop) (kd n B : Nat) (u : ByteArray) (yb zb : Bool) (Wq : World)
    (ty0 : ∀ y : Kin Wq, y.u.cell? ⟨B, 0, none⟩ = some (.int .i64 kd)) (ty1 : ∀ y : Kin Wq, y.u.cell? ⟨B, 3, none⟩ = some (.int .i64 n))
    (e5 : ((kd : Int) == 5) = yb) (e2 : ((kd : Int) == 2) = zb) (HN0 : Hid (kd ≠ 3 → n = 0)) (HN30 : Hid (n ≤ 1073741824))
    (c1 : Hid (∀ w, Calls Try.prog 7 #[.string u] w fun e w' => e = .returned (.bool yb) ∧ w' = w))
    (c3 : Hid (∀ w, Calls Try.prog 8 #[.string u] w fun e w' => e = .returned (.bool zb) ∧ Below w.heap.size w w'))
    (x0 x1 x2 x3 x4 x5 x6 x9 x10 x11 x12 x13 x14 x15 x16 x17 x18 x19 x20 x21 x22 x23 x24 x25 x26 x27 x28 x29 x30 x31 x32 x33 x34 x35 x36 x37 x38 x39 x40 x41 x42 x43 x44 x45 x46 x47 x48 x49 x50 x51 x52 x53 x54 x55 x56 x57 x58 x59 x60 x61 x62 x63 x64 x65 x66 x67 x68 x69 x70 x71 x72 x73 x74 x75 x76 x77 x78 x79 x80 x81 x82 x83 x84 x85 x86 x87 x88 x89 x90 x91 x92 x93 x94 x95 x96 x97 x98 x99 x100 x101 x102 x103 x104 x105 x106 x107 x108 x109 x110 x111 x112 x113 x114 x115 x116 x117 x118 x119 x120 x121 x122 x123 x124 x125 x126 x127 x128 x129 x130 x131 x132 x133 x134 x135 x136 x137 x138 x139 x140 x141 x142 x143 x144 x145 x146 x147 x148 x149 x150 x151 x152 x153 x154 x155 x156 x157 x158 x159 x160 x161 x162 x163 x164 x165 x166 x167 x168 x169 x170 x171 x172 x173 x174 x175 x176 x177 x178 x179 x180 x181 x182 x183 x184 x185 x186 x187 : Value)
    (HK : ∀ (z : Kin Wq) (v149 v150 v151 v152 v153 v154 v155 v156 v157 v158 v159 v160 v161 v162 v163 v164 v165 v166 v167 v168 v169 v170 v171 v172 v173 v174 v175 v176 v177 v178 v179 v180 v181 v182 v183 v184 v185 v186 : Value), K ⟨#[x0, x1, x2, x3, x4, x5, x6, .pointer (some ⟨B, 0, none⟩), .string u, x9, x10, x11, x12, x13, x14, x15, x16, x17, x18, x19, x20, x21, x22, x23, x24, x25, x26, x27, x28, x29, x30, x31, x32, x33, x34, x35, x36, x37, x38, x39, x40, x41, x42, x43, x44, x45, x46, x47, x48, x49, x50, x51, x52, x53, x54, x55, x56, x57, x58, x59, x60, x61, x62, x63, x64, x65, x66, x67, x68, x69, x70, x71, x72, x73, x74, x75, x76, x77, x78, x79, x80, x81, x82, x83, x84, x85, x86, x87, x88, x89, x90, x91, x92, x93, x94, x95, x96, x97, x98, x99, x100, x101, x102, x103, x104, x105, x106, x107, x108, x109, x110, x111, x112, x113, x114, x115, x116, x117, x118, x119, x120, x121, x122, x123, x124, x125, x126, x127, x128, x129, x130, x131, x132, x133, x134, x135, x136, x137, x138, x139, x140, x141, x142, x143, x144, x145, x146, x147, x148, v149, v150, v151, v152, v153, v154, v155, v156, v157, v158, v159, v160, v161, v162, v163, v164, v165, v166, v167, v168, v169, v170, v171, v172, v173, v174, v175, v176, v177, v178, v179, v180, v181, v182, v183, v184, v185, v186, .bool false], []⟩ z.u) :
    Code.wp Try.prog ((Try.f3.body.bind (fr 21)).getD .skip) (Exit.then K Q) ⟨#[x0, x1, x2, x3, x4, x5, x6, .pointer (some ⟨B, 0, none⟩), .string u, x9, x10, x11, x12, x13, x14, x15, x16, x17, x18, x19, x20, x21, x22, x23, x24, x25, x26, x27, x28, x29, x30, x31, x32, x33, x34, x35, x36, x37, x38, x39, x40, x41, x42, x43, x44, x45, x46, x47, x48, x49, x50, x51, x52, x53, x54, x55, x56, x57, x58, x59, x60, x61, x62, x63, x64, x65, x66, x67, x68, x69, x70, x71, x72, x73, x74, x75, x76, x77, x78, x79, x80, x81, x82, x83, x84, x85, x86, x87, x88, x89, x90, x91, x92, x93, x94, x95, x96, x97, x98, x99, x100, x101, x102, x103, x104, x105, x106, x107, x108, x109, x110, x111, x112, x113, x114, x115, x116, x117, x118, x119, x120, x121, x122, x123, x124, x125, x126, x127, x128, x129, x130, x131, x132, x133, x134, x135, x136, x137, x138, x139, x140, x141, x142, x143, x144, x145, x146, x147, x148, x149, x150, x151, x152, x153, x154, x155, x156, x157, x158, x159, x160, x161, x162, x163, x164, x165, x166, x167, x168, x169, x170, x171, x172, x173, x174, x175, x176, x177, x178, x179, x180, x181, x182, x183, x184, x185, x186, x187], []⟩ Wq := by
  have HK' : Hid (∀ (z : Kin Wq) (v149 v150 v151 v152 v153 v154 v155 v156 v157 v158 v159 v160 v161 v162 v163 v164 v165 v166 v167 v168 v169 v170 v171 v172 v173 v174 v175 v176 v177 v178 v179 v180 v181 v182 v183 v184 v185 v186 : Value), K ⟨#[x0, x1, x2, x3, x4, x5, x6, .pointer (some ⟨B, 0, none⟩), .string u, x9, x10, x11, x12, x13, x14, x15, x16, x17, x18, x19, x20, x21, x22, x23, x24, x25, x26, x27, x28, x29, x30, x31, x32, x33, x34, x35, x36, x37, x38, x39, x40, x41, x42, x43, x44, x45, x46, x47, x48, x49, x50, x51, x52, x53, x54, x55, x56, x57, x58, x59, x60, x61, x62, x63, x64, x65, x66, x67, x68, x69, x70, x71, x72, x73, x74, x75, x76, x77, x78, x79, x80, x81, x82, x83, x84, x85, x86, x87, x88, x89, x90, x91, x92, x93, x94, x95, x96, x97, x98, x99, x100, x101, x102, x103, x104, x105, x106, x107, x108, x109, x110, x111, x112, x113, x114, x115, x116, x117, x118, x119, x120, x121, x122, x123, x124, x125, x126, x127, x128, x129, x130, x131, x132, x133, x134, x135, x136, x137, x138, x139, x140, x141, x142, x143, x144, x145, x146, x147, x148, v149, v150, v151, v152, v153, v154, v155, v156, v157, v158, v159, v160, v161, v162, v163, v164, v165, v166, v167, v168, v169, v170, v171, v172, v173, v174, v175, v176, v177, v178, v179, v180, v181, v182, v183, v184, v185, v186, .bool false], []⟩ z.u) := HK
  clear HK
  conv => arg 2; whnf
  have hne : Nonempty (Kin Wq) := Kin.there Wq
  by_cases hk3 : kd = 3
  · have r3 : ((kd : Int) == 3) = true := by simp; omega
    have r4 : ((kd : Int) != 3) = false := by simp; omega
    have r5 : ¬ ((1073741824 : Int) < (n : Int)) := by have := HN30.out; omega
    clear hk3
    refine wp_region_kin (by kernel_rfl) (by kernel_rfl) ?_
    iterate 5 quiet_step (exact kin_same (c1.out _))
    iterate 34 quiet_step (exact kin_of (c3.out _))
    refine (wpQuiet_nil ?_ : _)
    rintro _ ⟨z, rfl⟩
    exact HK'.out z _ _ _ _ _ _ _ _ _ _ _ _ _ _ _ _ _ _ _ _ _ _ _ _ _ _ _ _ _ _ _ _ _ _ _ _ _ _
  · have r3 : ((kd : Int) == 3) = false := by simp; omega
    have r4 : ((kd : Int) != 3) = true := by simp; omega
    have hn0 := HN0.out hk3
    have ty1z : ∀ y : Kin Wq, y.u.cell? ⟨B, 3, none⟩ = some (.int .i64 0) := fun y => by rw [ty1 y, hn0]; rfl
    clear ty1 hn0 hk3
    refine wp_region_kin (by kernel_rfl) (by kernel_rfl) ?_
    refine (wpQuiet_step (fun K0 hK => ?_) : _)
    have HQ := show Hid _ from hK
    clear hK
    go_simp
    refine HQ.out _ ?_
    clear HQ K0
    refine (wpQuiet_step (fun K0 hK => ?_) : _)
    have HQ := show Hid _ from hK
    clear hK
    go_simp
    refine HQ.out _ ?_
    clear HQ K0
    refine (wpQuiet_step (fun K0 hK => ?_) : _)
    have HQ := show Hid _ from hK
    clear hK
    go_simp
    refine HQ.out _ ?_
    clear HQ K0
    refine (wpQuiet_step (fun K0 hK => ?_) : _)
    have HQ := show Hid _ from hK
    clear hK
    go_simp
    refine HQ.out _ ?_
    clear HQ K0
    refine (wpQuiet_step (fun K0 hK => ?_) : _)
    have HQ := show Hid _ from hK
    clear hK
    go_simp
    apply Exists.intro
    refine ⟨fun _ => ?_, HQ.out _ ?_⟩
    · exact kin_same (c1.out _)
    clear HQ K0
    refine (wpQuiet_step (fun K0 hK => ?_) : _)
    have HQ := show Hid _ from hK
    clear hK
    go_simp
    refine HQ.out _ ?_
    clear HQ K0
    refine (wpQuiet_step (fun K0 hK => ?_) : _)
    have HQ := show Hid _ from hK
    clear hK
    go_simp
    refine HQ.out _ ?_
    clear HQ K0
    refine (wpQuiet_step (fun K0 hK => ?_) : _)
    have HQ := show Hid _ from hK
    clear hK
    go_simp
    refine HQ.out _ ?_
    clear HQ K0
    refine (wpQuiet_step (fun K0 hK => ?_) : _)
    have HQ := show Hid _ from hK
    clear hK
    go_simp
    refine HQ.out _ ?_
    clear HQ K0
    refine (wpQuiet_step (fun K0 hK => ?_) : _)
    have HQ := show Hid _ from hK
    clear hK
    go_simp
    refine HQ.out _ ?_
    clear HQ K0
    refine (wpQuiet_step (fun K0 hK => ?_) : _)
    have HQ := show Hid _ from hK
    clear hK
    go_simp
    refine HQ.out _ ?_
    clear HQ K0
    refine (wpQuiet_step (fun K0 hK => ?_) : _)
    have HQ := show Hid _ from hK
    clear hK
    go_simp
    apply Exists.intro
    refine ⟨fun _ => ?_, HQ.out _ ?_⟩
    · exact kin_of (c3.out _)
    clear HQ K0
    refine (wpQuiet_step (fun K0 hK => ?_) : _)
    have HQ := show Hid _ from hK
    clear hK
    go_simp
    refine HQ.out _ ?_
    clear HQ K0
    refine (wpQuiet_step (fun K0 hK => ?_) : _)
    have HQ := show Hid _ from hK
    clear hK
    go_simp
    refine HQ.out _ ?_
    clear HQ K0
    refine (wpQuiet_step (fun K0 hK => ?_) : _)
    have HQ := show Hid _ from hK
    clear hK
    go_simp
    refine HQ.out _ ?_
    clear HQ K0
    refine (wpQuiet_step (fun K0 hK => ?_) : _)
    have HQ := show Hid _ from hK
    clear hK
    go_simp
    refine HQ.out _ ?_
    clear HQ K0
    refine (wpQuiet_step (fun K0 hK => ?_) : _)
    have HQ := show Hid _ from hK
    clear hK
    go_simp
    refine HQ.out _ ?_
    clear HQ K0
    refine (wpQuiet_step (fun K0 hK => ?_) : _)
    have HQ := show Hid _ from hK
    clear hK
    go_simp
    refine HQ.out _ ?_
    clear HQ K0
    refine (wpQuiet_step (fun K0 hK => ?_) : _)
    have HQ := show Hid _ from hK
    clear hK
    go_simp
    refine HQ.out _ ?_
    clear HQ K0
    refine (wpQuiet_step (fun K0 hK => ?_) : _)
    have HQ := show Hid _ from hK
    clear hK
    go_simp
    refine HQ.out _ ?_
    clear HQ K0
    refine (wpQuiet_step (fun K0 hK => ?_) : _)
    have HQ := show Hid _ from hK
    clear hK
    go_simp
    refine HQ.out _ ?_
    clear HQ K0
    refine (wpQuiet_step (fun K0 hK => ?_) : _)
    have HQ := show Hid _ from hK
    clear hK
    go_simp
    refine HQ.out _ ?_
    clear HQ K0
    refine (wpQuiet_step (fun K0 hK => ?_) : _)
    have HQ := show Hid _ from hK
    clear hK
    go_simp
    refine HQ.out _ ?_
    clear HQ K0
    refine (wpQuiet_step (fun K0 hK => ?_) : _)
    have HQ := show Hid _ from hK
    clear hK
    go_simp
    refine HQ.out _ ?_
    clear HQ K0
    refine (wpQuiet_step (fun K0 hK => ?_) : _)
    have HQ := show Hid _ from hK
    clear hK
    go_simp
    refine HQ.out _ ?_
    clear HQ K0
    refine (wpQuiet_step (fun K0 hK => ?_) : _)
    have HQ := show Hid _ from hK
    clear hK
    go_simp
    refine HQ.out _ ?_
    clear HQ K0
    refine (wpQuiet_step (fun K0 hK => ?_) : _)
    have HQ := show Hid _ from hK
    clear hK
    go_simp
    refine HQ.out _ ?_
    clear HQ K0
    refine (wpQuiet_step (fun K0 hK => ?_) : _)
    have HQ := show Hid _ from hK
    clear hK
    go_simp
    refine HQ.out _ ?_
    clear HQ K0
    refine (wpQuiet_step (fun K0 hK => ?_) : _)
    have HQ := show Hid _ from hK
    clear hK
    go_simp
    refine HQ.out _ ?_
    clear HQ K0
    refine (wpQuiet_step (fun K0 hK => ?_) : _)
    have HQ := show Hid _ from hK
    clear hK
    go_simp
    refine HQ.out _ ?_
    clear HQ K0
    refine (wpQuiet_step (fun K0 hK => ?_) : _)
    have HQ := show Hid _ from hK
    clear hK
    go_simp
    refine HQ.out _ ?_
    clear HQ K0
    refine (wpQuiet_step (fun K0 hK => ?_) : _)
    have HQ := show Hid _ from hK
    clear hK
    go_simp
    refine HQ.out _ ?_
    clear HQ K0
    refine (wpQuiet_step (fun K0 hK => ?_) : _)
    have HQ := show Hid _ from hK
    clear hK
    go_simp
    refine HQ.out _ ?_
    clear HQ K0
    refine (wpQuiet_step (fun K0 hK => ?_) : _)
    have HQ := show Hid _ from hK
    clear hK
    go_simp
    refine HQ.out _ ?_
    clear HQ K0
    refine (wpQuiet_step (fun K0 hK => ?_) : _)
    have HQ := show Hid _ from hK
    clear hK
    go_simp
    refine HQ.out _ ?_
    clear HQ K0
    refine (wpQuiet_step (fun K0 hK => ?_) : _)
    have HQ := show Hid _ from hK
    clear hK
    go_simp
    refine HQ.out _ ?_
    clear HQ K0
    refine (wpQuiet_step (fun K0 hK => ?_) : _)
    have HQ := show Hid _ from hK
    clear hK
    go_simp
    refine HQ.out _ ?_
    clear HQ K0
    refine (wpQuiet_step (fun K0 hK => ?_) : _)
    have HQ := show Hid _ from hK
    clear hK
    go_simp
    refine HQ.out _ ?_
    clear HQ K0
    refine (wpQuiet_step (fun K0 hK => ?_) : _)
    have HQ := show Hid _ from hK
    clear hK
    go_simp
    refine HQ.out _ ?_
    clear HQ K0
    refine (wpQuiet_nil ?_ : _)
    rintro _ ⟨z, rfl⟩
    exact HK'.out z _ _ _ _ _ _ _ _ _ _ _ _ _ _ _ _ _ _ _ _ _ _ _ _ _ _ _ _ _ _ _ _ _ _ _ _ _ _
end Go.Proofs.Ytngoolkojnoplaa.lexCovers
