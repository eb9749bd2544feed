/-
  A piece of the last statement of the laws' own fixed. Written by wip/gen_ifixs.py.
  A piece of the last statement of the laws' own fixed. Written by wip/gen_ifixs.py.
  A piece of the last statement of the laws' own fixed. Written by wip/gen_ifixs.py.
-/
import Derived.Test.YtembccehokodeaaGreatDoorJ07
namespace Go.Proofs.YtembccehokodeaaGreatDoor
open Go.RowKit IP
set_option linter.unusedVariables false
set_option linter.unusedSimpArgs false
set_option maxHeartbeats 8000000 in
set_option maxRecDepth 100000 in
theorem fix_pieceA {D : World} {Z : World → Prop} {b1 b2 b3 b4 q1 d1 q2 d2 : Nat} {AH3 : Option Addr} {caH3 : Nat} {CH3 : Option Addr} {cbH3 : Nat} {AH4 : Option Addr} {caH4 : Nat} {CH4 : Option Addr} {cbH4 : Nat} {Q : Exit → Act → World → Prop} {T : ByteArray} (E : Hid (FixE D Z b1 b2 b3 b4 q1 d1 q2 d2 AH3 caH3 CH3 cbH3 AH4 caH4 CH4 cbH4)) (hQ : ∀ (c : List PanicEntry) (d : Option Tmp) (a : Act) (v : Value) (V : World), Q (.panic c) (a.put d v) V → Q (.panic c) a V) (hS2 : T.size = 128) (hS3 : T.extract 16 30 = ⟨#[1, 109, 0, 4, 0, 0, 0, 0, 5, 0, 0, 0, 0, 0]⟩) (hS5 : T.data[0]? = some 3) (hS6 : T.data[1]? = some 1) (ops : Array Oper) (ho : fixOps Tryz.f19 = ops) {W : World} (HW : Hid (Below D.heap.size D W)) {x0 x3 x4 x7 x9 x15 x26 x27 x29 x30 x31 x32 x33 x34 x35 x36 x37 x38 x39 x40 x41 x42 x43 x44 x45 x46 x47 x48 x49 x50 x51 x52 x53 x54 x55 x56 x57 x58 x59 x60 x61 x62 x63 x64 x65 x66 x67 x68 x69 x70 x71 x72 x73 x74 x75 x76 x77 x78 x79 x80 x81 x82 x83 x84 x85 x86 x87 x88 x89 x90 x91 x92 x93 x94 x95 x96 x97 x98 x99 x100 x101 x102 x103 x104 x105 x106 x107 x108 x109 x110 x111 x112 x113 x114 x115 x116 x117 x118 x119 x120 x121 x122 x123 x124 x125 x126 x127 x128 x129 x130 x131 x132 x133 x134 x135 x136 x137 x138 x139 x140 x141 x142 x143 x144 x145 x146 x147 x148 x149 x150 x151 x152 x153 x154 x155 x156 x157 x158 x159 x160 x161 x162 x163 x164 x165 x166 x167 x168 x169 x170 x171 x172 x173 x174 x175 x176 x177 x178 x179 x180 x181 x182 x183 x184 x185 x186 x187 x188 x189 x190 x191 x192 x193 x194 x195 x196 x197 x198 x199 x200 x201 x202 x203 x204 x205 x206 x207 x208 x209 x210 x211 x212 x213 x214 x215 x216 x217 x218 x219 x220 x221 x222 x223 x224 x225 x226 x227 : Value}
    (hN : ∀ {V : World} {x0 x2 x3 x4 x7 x9 x15 x26 x27 x29 x30 x31 x32 x33 x34 x35 x36 x37 x38 x39 x40 x41 x42 x43 x44 x45 x46 x47 x48 x49 x50 x51 x52 x53 x54 x55 x56 x57 x58 x59 x60 x61 x62 x63 x64 x65 x66 x67 x68 x69 x70 x71 x72 x73 x74 x75 x76 x77 x78 x79 x80 x81 x82 x83 x84 x85 x86 x87 x88 x89 x90 x91 x92 x93 x94 x95 x96 x97 x98 x99 x100 x101 x102 x103 x104 x105 x106 x107 x108 x109 x110 x111 x113 x114 x115 x116 x117 x118 x119 x120 x121 x122 x123 x124 x125 x126 x127 x128 x129 x130 x131 x132 x133 x134 x135 x136 x137 x138 x139 x140 x141 x142 x143 x144 x145 x146 x147 x148 x149 x150 x151 x152 x153 x154 x155 x156 x157 x158 x159 x160 x161 x162 x163 x164 x165 x166 x167 x168 x169 x170 x171 x172 x173 x174 x175 x176 x177 x178 x179 x180 x181 x182 x183 x184 x185 x186 x187 x188 x189 x190 x191 x192 x193 x194 x195 x196 x197 x198 x199 x200 x201 x202 x203 x204 x205 x206 x207 x208 x209 x210 x211 x212 x213 x214 x215 x216 x217 x218 x219 x220 x221 x222 x223 x224 x225 x226 x227 : Value}, Hid (Below D.heap.size D V) → wpAnyH Tryz.prog .any ops Q Z 116 #[true, true, true, true, true, true, true, true, true, true, true, true, true, true, false, false, false, false, false, false, false, false, false, false, false, false, false, false, false, false, false, false, false, false, false, false, false, false, false, false, false, false, false, false, false, false, false, false, false, false, false, false, false, false, false, false, false, false, false, false, false, false, false, false, false, false, false, false, false, false, false, false, false, false, false, false, false, false, false, false, false, false, false, false, false, false, false, false, false, false, false, false, false, false, false, false, false, false, false, false, false, false, false, false, false, false, false, false, false, false, false, false, false, false, false, false, false, false, false, false, false, false, false, false, false, false, false, false, false, false] ⟨#[x0, .pointer (some ⟨b1, 0, none⟩), x2, x3, x4, .int .i64 4, .pointer (some ⟨b2, 0, none⟩), x7, .int .i64 3, x9, .int .i64 0, .pointer (some ⟨b3, 0, none⟩), .int .i64 0, .pointer (some ⟨b4, 0, none⟩), .int .i64 0, x15, .int .i64 3, .string ⟨#[99]⟩, .string ⟨#[109]⟩, .bool true, .string ⟨#[109]⟩, .string ⟨#[]⟩, .bool false, .string ⟨#[109]⟩, .string ⟨#[110]⟩, .bool true, x26, x27, .bool false, x29, x30, x31, x32, x33, x34, x35, x36, x37, x38, x39, x40, x41, x42, x43, x44, x45, x46, x47, x48, x49, x50, x51, x52, x53, x54, x55, x56, x57, x58, x59, x60, x61, x62, x63, x64, x65, x66, x67, x68, x69, x70, x71, x72, x73, x74, x75, x76, x77, x78, x79, x80, x81, x82, x83, x84, x85, x86, x87, x88, x89, x90, x91, x92, x93, x94, x95, x96, x97, x98, x99, x100, x101, x102, x103, x104, x105, x106, x107, x108, x109, x110, x111, .bool true, x113, x114, x115, x116, x117, x118, x119, x120, x121, x122, x123, x124, x125, x126, x127, x128, x129, x130, x131, x132, x133, x134, x135, x136, x137, x138, x139, x140, x141, x142, x143, x144, x145, x146, x147, x148, x149, x150, x151, x152, x153, x154, x155, x156, x157, x158, x159, x160, x161, x162, x163, x164, x165, x166, x167, x168, x169, x170, x171, x172, x173, x174, x175, x176, x177, x178, x179, x180, x181, x182, x183, x184, x185, x186, x187, x188, x189, x190, x191, x192, x193, x194, x195, x196, x197, x198, x199, x200, x201, x202, x203, x204, x205, x206, x207, x208, x209, x210, x211, x212, x213, x214, x215, x216, x217, x218, x219, x220, x221, x222, x223, x224, x225, x226, x227], []⟩ V) : wpAnyH Tryz.prog .any ops Q Z 130 #[false, false, false, false, false, false, false, false, false, false, false, false, false, false, false, false, false, false, false, false, false, false, false, false, false, false, false, false, false, false, false, false, false, false, false, false, false, false, false, false, false, false, false, false, false, false, false, false, false, false, false, false, false, false, false, false, false, false, false, false, false, false, false, false, false, false, false, false, false, false, false, false, false, false, false, false, false, false, false, false, false, false, false, false, false, false, false, false, false, false, false, false, false, false, false, false, false, false, false, false, false, false, false, false, false, false, false, false, false, false, false, false, false, false, false, false, false, false, false, false, false, false, false, false, false, false, false, false, false, false] ⟨#[x0, .pointer (some ⟨b1, 0, none⟩), .string T, x3, x4, .int .i64 4, .pointer (some ⟨b2, 0, none⟩), x7, .int .i64 3, x9, .int .i64 0, .pointer (some ⟨b3, 0, none⟩), .int .i64 0, .pointer (some ⟨b4, 0, none⟩), .int .i64 0, x15, .int .i64 3, .string ⟨#[99]⟩, .string ⟨#[109]⟩, .bool true, .string ⟨#[109]⟩, .string ⟨#[]⟩, .bool false, .string ⟨#[109]⟩, .string ⟨#[110]⟩, .bool true, x26, x27, .bool false, x29, x30, x31, x32, x33, x34, x35, x36, x37, x38, x39, x40, x41, x42, x43, x44, x45, x46, x47, x48, x49, x50, x51, x52, x53, x54, x55, x56, x57, x58, x59, x60, x61, x62, x63, x64, x65, x66, x67, x68, x69, x70, x71, x72, x73, x74, x75, x76, x77, x78, x79, x80, x81, x82, x83, x84, x85, x86, x87, x88, x89, x90, x91, x92, x93, x94, x95, x96, x97, x98, x99, x100, x101, x102, x103, x104, x105, x106, x107, x108, x109, x110, x111, x112, x113, x114, x115, x116, x117, x118, x119, x120, x121, x122, x123, x124, x125, x126, x127, x128, x129, x130, x131, x132, x133, x134, x135, x136, x137, x138, x139, x140, x141, x142, x143, x144, x145, x146, x147, x148, x149, x150, x151, x152, x153, x154, x155, x156, x157, x158, x159, x160, x161, x162, x163, x164, x165, x166, x167, x168, x169, x170, x171, x172, x173, x174, x175, x176, x177, x178, x179, x180, x181, x182, x183, x184, x185, x186, x187, x188, x189, x190, x191, x192, x193, x194, x195, x196, x197, x198, x199, x200, x201, x202, x203, x204, x205, x206, x207, x208, x209, x210, x211, x212, x213, x214, x215, x216, x217, x218, x219, x220, x221, x222, x223, x224, x225, x226, x227], []⟩ W := by
  have hz1 := text_yes hS3
  have h0s : 0 < T.size := by omega
  have h1s : 1 < T.size := by omega
  have hb0 : T[0] = 3 := by
    have h : 0 < T.data.size := h0s
    rw [Array.getElem?_eq_getElem h] at hS5
    exact Option.some.inj hS5
  have hb1 : T[1] = 1 := by
    have h : 1 < T.data.size := h1s
    rw [Array.getElem?_eq_getElem h] at hS6
    exact Option.some.inj hS6
  clear hS5 hS6
  simp only [fixOps, regOps, secondLast, Tryz.f19, Option.bind_some, Option.map_some, lastTwo, Option.getD_some, Option.getD_none, List.append, List.append_eq, List.cons_append, List.nil_append] at ho
  subst ho
  (try dsimp only at hN)
  (try dsimp only)
  have hZ := E.out.below _ HW.out
  refine take_op (i := 0) (d := some 99) (v := ?_) rfl rfl (by kernel_rfl) (by kernel_rfl) (by kernel_rfl) (fun c a V h => hQ c _ a _ V h) (Or.inl ⟨by kernel_rfl, ?_⟩) hZ ?_
  rotate_left
  · intro W' hSw; (try dsimp only at hSw); go_simp; (first | done | with_reducible rfl)
  try simp only [Act.put, List.setIfInBounds_toArray, List.set_cons_zero, List.set_cons_succ]
  refine take_op (i := 1) (d := some 100) (v := ?_) rfl rfl (by kernel_rfl) (by kernel_rfl) (by kernel_rfl) (fun c a V h => hQ c _ a _ V h) (Or.inl ⟨by kernel_rfl, ?_⟩) hZ ?_
  rotate_left
  · intro W' hSw; (try dsimp only at hSw); go_simp; (first | done | with_reducible rfl)
  try simp only [Act.put, List.setIfInBounds_toArray, List.set_cons_zero, List.set_cons_succ]
  refine take_op (i := 2) (d := some 101) (v := ?_) rfl rfl (by kernel_rfl) (by kernel_rfl) (by kernel_rfl) (fun c a V h => hQ c _ a _ V h) (Or.inl ⟨by kernel_rfl, ?_⟩) hZ ?_
  rotate_left
  · intro W' hSw; (try dsimp only at hSw); go_simp; (first | done | with_reducible rfl)
  try simp only [Act.put, List.setIfInBounds_toArray, List.set_cons_zero, List.set_cons_succ]
  refine take_op (i := 3) (d := some 102) (v := ?_) rfl rfl (by kernel_rfl) (by kernel_rfl) (by kernel_rfl) (fun c a V h => hQ c _ a _ V h) (Or.inl ⟨by kernel_rfl, ?_⟩) hZ ?_
  rotate_left
  · intro W' hSw; (try dsimp only at hSw); go_simp; (first | done | with_reducible rfl)
  try simp only [Act.put, List.setIfInBounds_toArray, List.set_cons_zero, List.set_cons_succ]
  refine take_op (i := 4) (d := some 103) (v := ?_) rfl rfl (by kernel_rfl) (by kernel_rfl) (by kernel_rfl) (fun c a V h => hQ c _ a _ V h) (Or.inl ⟨by kernel_rfl, ?_⟩) hZ ?_
  rotate_left
  · intro W' hSw; (try dsimp only at hSw); go_simp; (first | done | with_reducible rfl)
  try simp only [Act.put, List.setIfInBounds_toArray, List.set_cons_zero, List.set_cons_succ]
  refine take_op (i := 5) (d := some 104) (v := ?_) rfl rfl (by kernel_rfl) (by kernel_rfl) (by kernel_rfl) (fun c a V h => hQ c _ a _ V h) (Or.inl ⟨by kernel_rfl, ?_⟩) hZ ?_
  rotate_left
  · intro W' hSw; (try dsimp only at hSw); go_simp; (first | done | with_reducible rfl)
  try simp only [Act.put, List.setIfInBounds_toArray, List.set_cons_zero, List.set_cons_succ]
  refine take_op (i := 6) (d := some 105) (v := ?_) rfl rfl (by kernel_rfl) (by kernel_rfl) (by kernel_rfl) (fun c a V h => hQ c _ a _ V h) (Or.inl ⟨by kernel_rfl, ?_⟩) hZ ?_
  rotate_left
  · intro W' hSw; (try dsimp only at hSw); go_simp; (first | done | with_reducible rfl)
  try simp only [Act.put, List.setIfInBounds_toArray, List.set_cons_zero, List.set_cons_succ]
  refine take_op (i := 7) (d := some 106) (v := ?_) rfl rfl (by kernel_rfl) (by kernel_rfl) (by kernel_rfl) (fun c a V h => hQ c _ a _ V h) (Or.inl ⟨by kernel_rfl, ?_⟩) hZ ?_
  rotate_left
  · intro W' hSw; (try dsimp only at hSw); go_simp; (first | done | with_reducible rfl)
  try simp only [Act.put, List.setIfInBounds_toArray, List.set_cons_zero, List.set_cons_succ]
  refine take_op (i := 8) (d := some 107) (v := ?_) rfl rfl (by kernel_rfl) (by kernel_rfl) (by kernel_rfl) (fun c a V h => hQ c _ a _ V h) (Or.inl ⟨by kernel_rfl, ?_⟩) hZ ?_
  rotate_left
  · intro W' hSw; (try dsimp only at hSw); go_simp; (first | done | with_reducible rfl)
  try simp only [Act.put, List.setIfInBounds_toArray, List.set_cons_zero, List.set_cons_succ]
  refine take_op (i := 9) (d := some 108) (v := ?_) rfl rfl (by kernel_rfl) (by kernel_rfl) (by kernel_rfl) (fun c a V h => hQ c _ a _ V h) (Or.inl ⟨by kernel_rfl, ?_⟩) hZ ?_
  rotate_left
  · intro W' hSw; (try dsimp only at hSw); go_simp; (first | done | with_reducible rfl)
  try simp only [Act.put, List.setIfInBounds_toArray, List.set_cons_zero, List.set_cons_succ]
  refine take_op (i := 10) (d := some 109) (v := ?_) rfl rfl (by kernel_rfl) (by kernel_rfl) (by kernel_rfl) (fun c a V h => hQ c _ a _ V h) (Or.inl ⟨by kernel_rfl, ?_⟩) hZ ?_
  rotate_left
  · intro W' hSw; (try dsimp only at hSw); go_simp; (first | done | with_reducible rfl)
  try simp only [Act.put, List.setIfInBounds_toArray, List.set_cons_zero, List.set_cons_succ]
  refine take_op (i := 11) (d := some 110) (v := ?_) rfl rfl (by kernel_rfl) (by kernel_rfl) (by kernel_rfl) (fun c a V h => hQ c _ a _ V h) (Or.inl ⟨by kernel_rfl, ?_⟩) hZ ?_
  rotate_left
  · intro W' hSw; (try dsimp only at hSw); go_simp; (first | done | with_reducible rfl)
  try simp only [Act.put, List.setIfInBounds_toArray, List.set_cons_zero, List.set_cons_succ]
  refine take_op (i := 12) (d := some 111) (v := ?_) rfl rfl (by kernel_rfl) (by kernel_rfl) (by kernel_rfl) (fun c a V h => hQ c _ a _ V h) (Or.inl ⟨by kernel_rfl, ?_⟩) hZ ?_
  rotate_left
  · intro W' hSw; (try dsimp only at hSw); go_simp; (first | done | with_reducible rfl)
  try simp only [Act.put, List.setIfInBounds_toArray, List.set_cons_zero, List.set_cons_succ]
  refine take_op (i := 13) (d := some 112) (v := ?_) rfl rfl (by kernel_rfl) (by kernel_rfl) (by kernel_rfl) (fun c a V h => hQ c _ a _ V h) (Or.inl ⟨by kernel_rfl, ?_⟩) hZ ?_
  rotate_left
  · intro W' hSw; (try dsimp only at hSw); go_simp; (first | done | with_reducible rfl)
  try simp only [Act.put, List.setIfInBounds_toArray, List.set_cons_zero, List.set_cons_succ]
  exact hN HW
end Go.Proofs.YtembccehokodeaaGreatDoor

namespace Go.Proofs.YtembccehokodeaaGreatDoor
open Go.RowKit IP
set_option linter.unusedVariables false
set_option linter.unusedSimpArgs false
set_option maxHeartbeats 8000000 in
set_option maxRecDepth 100000 in
theorem fix_pieceB {D : World} {Z : World → Prop} {b1 b2 b3 b4 q1 d1 q2 d2 : Nat} {AH3 : Option Addr} {caH3 : Nat} {CH3 : Option Addr} {cbH3 : Nat} {AH4 : Option Addr} {caH4 : Nat} {CH4 : Option Addr} {cbH4 : Nat} {Q : Exit → Act → World → Prop} {T : ByteArray} (E : Hid (FixE D Z b1 b2 b3 b4 q1 d1 q2 d2 AH3 caH3 CH3 cbH3 AH4 caH4 CH4 cbH4)) (hQ : ∀ (c : List PanicEntry) (d : Option Tmp) (a : Act) (v : Value) (V : World), Q (.panic c) (a.put d v) V → Q (.panic c) a V) (ops : Array Oper) (ho : fixOps Tryz.f19 = ops) {W : World} (HW : Hid (Below D.heap.size D W)) {x0 x2 x3 x4 x7 x9 x15 x26 x27 x29 x30 x31 x32 x33 x34 x35 x36 x37 x38 x39 x40 x41 x42 x43 x44 x45 x46 x47 x48 x49 x50 x51 x52 x53 x54 x55 x56 x57 x58 x59 x60 x61 x62 x63 x64 x65 x66 x67 x68 x69 x70 x71 x72 x73 x74 x75 x76 x77 x78 x79 x80 x81 x82 x83 x84 x85 x86 x87 x88 x89 x90 x91 x92 x93 x94 x95 x96 x97 x98 x99 x100 x101 x102 x103 x104 x105 x106 x107 x108 x109 x110 x111 x113 x114 x115 x116 x117 x118 x119 x120 x121 x122 x123 x124 x125 x126 x127 x128 x129 x130 x131 x132 x133 x134 x135 x136 x137 x138 x139 x140 x141 x142 x143 x144 x145 x146 x147 x148 x149 x150 x151 x152 x153 x154 x155 x156 x157 x158 x159 x160 x161 x162 x163 x164 x165 x166 x167 x168 x169 x170 x171 x172 x173 x174 x175 x176 x177 x178 x179 x180 x181 x182 x183 x184 x185 x186 x187 x188 x189 x190 x191 x192 x193 x194 x195 x196 x197 x198 x199 x200 x201 x202 x203 x204 x205 x206 x207 x208 x209 x210 x211 x212 x213 x214 x215 x216 x217 x218 x219 x220 x221 x222 x223 x224 x225 x226 x227 : Value}
    (hN : ∀ {V : World} {x0 x2 x3 x4 x5 x7 x8 x9 x10 x15 x26 x27 x29 x30 x31 x32 x33 x34 x35 x36 x37 x38 x39 x40 x41 x42 x43 x44 x45 x46 x47 x48 x49 x50 x51 x52 x53 x54 x55 x56 x57 x58 x59 x60 x61 x62 x63 x64 x65 x66 x67 x68 x69 x70 x71 x72 x73 x74 x75 x76 x77 x78 x79 x80 x81 x82 x83 x84 x85 x86 x87 x88 x89 x90 x91 x92 x93 x94 x95 x96 x97 x98 x99 x100 x101 x102 x103 x104 x105 x106 x107 x108 x109 x110 x111 x112 x113 x114 x115 x116 x117 x118 x119 x120 x121 x122 x123 x125 x126 x127 x128 x129 x130 x131 x132 x133 x134 x135 x136 x137 x138 x139 x140 x141 x142 x143 x144 x145 x146 x147 x148 x149 x150 x151 x152 x153 x154 x155 x156 x157 x158 x159 x160 x161 x162 x163 x164 x165 x166 x167 x168 x169 x170 x171 x172 x173 x174 x175 x176 x177 x178 x179 x180 x181 x182 x183 x184 x185 x186 x187 x188 x189 x190 x191 x192 x193 x194 x195 x196 x197 x198 x199 x200 x201 x202 x203 x204 x205 x206 x207 x208 x209 x210 x211 x212 x213 x214 x215 x216 x217 x218 x219 x220 x221 x222 x223 x224 x225 x226 x227 : Value}, Hid (Below D.heap.size D V) → wpAnyH Tryz.prog .any ops Q Z 104 #[true, true, true, true, true, true, true, true, true, true, true, true, true, true, true, true, true, true, true, true, true, true, true, true, true, true, false, false, false, false, false, false, false, false, false, false, false, false, false, false, false, false, false, false, false, false, false, false, false, false, false, false, false, false, false, false, false, false, false, false, false, false, false, false, false, false, false, false, false, false, false, false, false, false, false, false, false, false, false, false, false, false, false, false, false, false, false, false, false, false, false, false, false, false, false, false, false, false, false, false, false, false, false, false, false, false, false, false, false, false, false, false, false, false, false, false, false, false, false, false, false, false, false, false, false, false, false, false, false, false] ⟨#[x0, .pointer (some ⟨b1, 0, none⟩), x2, x3, x4, x5, .pointer (some ⟨b2, 0, none⟩), x7, x8, x9, x10, .pointer (some ⟨b3, 0, none⟩), .int .i64 0, .pointer (some ⟨b4, 0, none⟩), .int .i64 0, x15, .int .i64 3, .string ⟨#[99]⟩, .string ⟨#[109]⟩, .bool true, .string ⟨#[109]⟩, .string ⟨#[]⟩, .bool false, .string ⟨#[109]⟩, .string ⟨#[110]⟩, .bool true, x26, x27, .bool false, x29, x30, x31, x32, x33, x34, x35, x36, x37, x38, x39, x40, x41, x42, x43, x44, x45, x46, x47, x48, x49, x50, x51, x52, x53, x54, x55, x56, x57, x58, x59, x60, x61, x62, x63, x64, x65, x66, x67, x68, x69, x70, x71, x72, x73, x74, x75, x76, x77, x78, x79, x80, x81, x82, x83, x84, x85, x86, x87, x88, x89, x90, x91, x92, x93, x94, x95, x96, x97, x98, x99, x100, x101, x102, x103, x104, x105, x106, x107, x108, x109, x110, x111, x112, x113, x114, x115, x116, x117, x118, x119, x120, x121, x122, x123, .bool true, x125, x126, x127, x128, x129, x130, x131, x132, x133, x134, x135, x136, x137, x138, x139, x140, x141, x142, x143, x144, x145, x146, x147, x148, x149, x150, x151, x152, x153, x154, x155, x156, x157, x158, x159, x160, x161, x162, x163, x164, x165, x166, x167, x168, x169, x170, x171, x172, x173, x174, x175, x176, x177, x178, x179, x180, x181, x182, x183, x184, x185, x186, x187, x188, x189, x190, x191, x192, x193, x194, x195, x196, x197, x198, x199, x200, x201, x202, x203, x204, x205, x206, x207, x208, x209, x210, x211, x212, x213, x214, x215, x216, x217, x218, x219, x220, x221, x222, x223, x224, x225, x226, x227], []⟩ V) : wpAnyH Tryz.prog .any ops Q Z 116 #[true, true, true, true, true, true, true, true, true, true, true, true, true, true, false, false, false, false, false, false, false, false, false, false, false, false, false, false, false, false, false, false, false, false, false, false, false, false, false, false, false, false, false, false, false, false, false, false, false, false, false, false, false, false, false, false, false, false, false, false, false, false, false, false, false, false, false, false, false, false, false, false, false, false, false, false, false, false, false, false, false, false, false, false, false, false, false, false, false, false, false, false, false, false, false, false, false, false, false, false, false, false, false, false, false, false, false, false, false, false, false, false, false, false, false, false, false, false, false, false, false, false, false, false, false, false, false, false, false, false] ⟨#[x0, .pointer (some ⟨b1, 0, none⟩), x2, x3, x4, .int .i64 4, .pointer (some ⟨b2, 0, none⟩), x7, .int .i64 3, x9, .int .i64 0, .pointer (some ⟨b3, 0, none⟩), .int .i64 0, .pointer (some ⟨b4, 0, none⟩), .int .i64 0, x15, .int .i64 3, .string ⟨#[99]⟩, .string ⟨#[109]⟩, .bool true, .string ⟨#[109]⟩, .string ⟨#[]⟩, .bool false, .string ⟨#[109]⟩, .string ⟨#[110]⟩, .bool true, x26, x27, .bool false, x29, x30, x31, x32, x33, x34, x35, x36, x37, x38, x39, x40, x41, x42, x43, x44, x45, x46, x47, x48, x49, x50, x51, x52, x53, x54, x55, x56, x57, x58, x59, x60, x61, x62, x63, x64, x65, x66, x67, x68, x69, x70, x71, x72, x73, x74, x75, x76, x77, x78, x79, x80, x81, x82, x83, x84, x85, x86, x87, x88, x89, x90, x91, x92, x93, x94, x95, x96, x97, x98, x99, x100, x101, x102, x103, x104, x105, x106, x107, x108, x109, x110, x111, .bool true, x113, x114, x115, x116, x117, x118, x119, x120, x121, x122, x123, x124, x125, x126, x127, x128, x129, x130, x131, x132, x133, x134, x135, x136, x137, x138, x139, x140, x141, x142, x143, x144, x145, x146, x147, x148, x149, x150, x151, x152, x153, x154, x155, x156, x157, x158, x159, x160, x161, x162, x163, x164, x165, x166, x167, x168, x169, x170, x171, x172, x173, x174, x175, x176, x177, x178, x179, x180, x181, x182, x183, x184, x185, x186, x187, x188, x189, x190, x191, x192, x193, x194, x195, x196, x197, x198, x199, x200, x201, x202, x203, x204, x205, x206, x207, x208, x209, x210, x211, x212, x213, x214, x215, x216, x217, x218, x219, x220, x221, x222, x223, x224, x225, x226, x227], []⟩ W := by
  simp only [fixOps, regOps, secondLast, Tryz.f19, Option.bind_some, Option.map_some, lastTwo, Option.getD_some, Option.getD_none, List.append, List.append_eq, List.cons_append, List.nil_append] at ho
  subst ho
  (try dsimp only at hN)
  (try dsimp only)
  have hZ := E.out.below _ HW.out
  refine take_op (i := 14) (d := some 113) (v := ?_) rfl rfl (by kernel_rfl) (by kernel_rfl) (by kernel_rfl) (fun c a V h => hQ c _ a _ V h) (Or.inl ⟨by kernel_rfl, ?_⟩) hZ ?_
  rotate_left
  · intro W' hSw; (try dsimp only at hSw); go_simp; (first | done | with_reducible rfl)
  try simp only [Act.put, List.setIfInBounds_toArray, List.set_cons_zero, List.set_cons_succ]
  refine take_op (i := 15) (d := some 114) (v := ?_) rfl rfl (by kernel_rfl) (by kernel_rfl) (by kernel_rfl) (fun c a V h => hQ c _ a _ V h) (Or.inl ⟨by kernel_rfl, ?_⟩) hZ ?_
  rotate_left
  · intro W' hSw; (try dsimp only at hSw); go_simp; (first | done | with_reducible rfl)
  try simp only [Act.put, List.setIfInBounds_toArray, List.set_cons_zero, List.set_cons_succ]
  refine take_op (i := 16) (d := some 115) (v := ?_) rfl rfl (by kernel_rfl) (by kernel_rfl) (by kernel_rfl) (fun c a V h => hQ c _ a _ V h) (Or.inl ⟨by kernel_rfl, ?_⟩) hZ ?_
  rotate_left
  · intro W' hSw; (try dsimp only at hSw); go_simp; (first | done | with_reducible rfl)
  try simp only [Act.put, List.setIfInBounds_toArray, List.set_cons_zero, List.set_cons_succ]
  refine take_op (i := 17) (d := some 116) (v := ?_) rfl rfl (by kernel_rfl) (by kernel_rfl) (by kernel_rfl) (fun c a V h => hQ c _ a _ V h) (Or.inl ⟨by kernel_rfl, ?_⟩) hZ ?_
  rotate_left
  · intro W' hSw; (try dsimp only at hSw); go_simp; (first | done | with_reducible rfl)
  try simp only [Act.put, List.setIfInBounds_toArray, List.set_cons_zero, List.set_cons_succ]
  refine take_op (i := 18) (d := some 117) (v := ?_) rfl rfl (by kernel_rfl) (by kernel_rfl) (by kernel_rfl) (fun c a V h => hQ c _ a _ V h) (Or.inl ⟨by kernel_rfl, ?_⟩) hZ ?_
  rotate_left
  · intro W' hSw; (try dsimp only at hSw); go_simp; (first | done | with_reducible rfl)
  try simp only [Act.put, List.setIfInBounds_toArray, List.set_cons_zero, List.set_cons_succ]
  refine take_op (i := 19) (d := some 118) (v := ?_) rfl rfl (by kernel_rfl) (by kernel_rfl) (by kernel_rfl) (fun c a V h => hQ c _ a _ V h) (Or.inl ⟨by kernel_rfl, ?_⟩) hZ ?_
  rotate_left
  · intro W' hSw; (try dsimp only at hSw); go_simp; (first | done | with_reducible rfl)
  try simp only [Act.put, List.setIfInBounds_toArray, List.set_cons_zero, List.set_cons_succ]
  refine take_op (i := 20) (d := some 119) (v := ?_) rfl rfl (by kernel_rfl) (by kernel_rfl) (by kernel_rfl) (fun c a V h => hQ c _ a _ V h) (Or.inl ⟨by kernel_rfl, ?_⟩) hZ ?_
  rotate_left
  · intro W' hSw; (try dsimp only at hSw); go_simp; (first | done | with_reducible rfl)
  try simp only [Act.put, List.setIfInBounds_toArray, List.set_cons_zero, List.set_cons_succ]
  refine take_op (i := 21) (d := some 120) (v := ?_) rfl rfl (by kernel_rfl) (by kernel_rfl) (by kernel_rfl) (fun c a V h => hQ c _ a _ V h) (Or.inl ⟨by kernel_rfl, ?_⟩) hZ ?_
  rotate_left
  · intro W' hSw; (try dsimp only at hSw); go_simp; (first | done | with_reducible rfl)
  try simp only [Act.put, List.setIfInBounds_toArray, List.set_cons_zero, List.set_cons_succ]
  refine take_op (i := 22) (d := some 121) (v := ?_) rfl rfl (by kernel_rfl) (by kernel_rfl) (by kernel_rfl) (fun c a V h => hQ c _ a _ V h) (Or.inl ⟨by kernel_rfl, ?_⟩) hZ ?_
  rotate_left
  · intro W' hSw; (try dsimp only at hSw); go_simp; (first | done | with_reducible rfl)
  try simp only [Act.put, List.setIfInBounds_toArray, List.set_cons_zero, List.set_cons_succ]
  refine take_op (i := 23) (d := some 122) (v := ?_) rfl rfl (by kernel_rfl) (by kernel_rfl) (by kernel_rfl) (fun c a V h => hQ c _ a _ V h) (Or.inl ⟨by kernel_rfl, ?_⟩) hZ ?_
  rotate_left
  · intro W' hSw; (try dsimp only at hSw); go_simp; (first | done | with_reducible rfl)
  try simp only [Act.put, List.setIfInBounds_toArray, List.set_cons_zero, List.set_cons_succ]
  refine take_op (i := 24) (d := some 123) (v := ?_) rfl rfl (by kernel_rfl) (by kernel_rfl) (by kernel_rfl) (fun c a V h => hQ c _ a _ V h) (Or.inl ⟨by kernel_rfl, ?_⟩) hZ ?_
  rotate_left
  · intro W' hSw; (try dsimp only at hSw); go_simp; (first | done | with_reducible rfl)
  try simp only [Act.put, List.setIfInBounds_toArray, List.set_cons_zero, List.set_cons_succ]
  refine take_op (i := 25) (d := some 124) (v := ?_) rfl rfl (by kernel_rfl) (by kernel_rfl) (by kernel_rfl) (fun c a V h => hQ c _ a _ V h) (Or.inl ⟨by kernel_rfl, ?_⟩) hZ ?_
  rotate_left
  · intro W' hSw; (try dsimp only at hSw); go_simp; (first | done | with_reducible rfl)
  try simp only [Act.put, List.setIfInBounds_toArray, List.set_cons_zero, List.set_cons_succ]
  exact hN HW
end Go.Proofs.YtembccehokodeaaGreatDoor

namespace Go.Proofs.YtembccehokodeaaGreatDoor
open Go.RowKit IP
set_option linter.unusedVariables false
set_option linter.unusedSimpArgs false
set_option maxHeartbeats 8000000 in
set_option maxRecDepth 100000 in
theorem fix_pieceC {D : World} {Z : World → Prop} {b1 b2 b3 b4 q1 d1 q2 d2 : Nat} {AH3 : Option Addr} {caH3 : Nat} {CH3 : Option Addr} {cbH3 : Nat} {AH4 : Option Addr} {caH4 : Nat} {CH4 : Option Addr} {cbH4 : Nat} {Q : Exit → Act → World → Prop} {T : ByteArray} (E : Hid (FixE D Z b1 b2 b3 b4 q1 d1 q2 d2 AH3 caH3 CH3 cbH3 AH4 caH4 CH4 cbH4)) (hQ : ∀ (c : List PanicEntry) (d : Option Tmp) (a : Act) (v : Value) (V : World), Q (.panic c) (a.put d v) V → Q (.panic c) a V) (ops : Array Oper) (ho : fixOps Tryz.f19 = ops) {W : World} (HW : Hid (Below D.heap.size D W)) {x0 x2 x3 x4 x5 x7 x8 x9 x10 x15 x26 x27 x29 x30 x31 x32 x33 x34 x35 x36 x37 x38 x39 x40 x41 x42 x43 x44 x45 x46 x47 x48 x49 x50 x51 x52 x53 x54 x55 x56 x57 x58 x59 x60 x61 x62 x63 x64 x65 x66 x67 x68 x69 x70 x71 x72 x73 x74 x75 x76 x77 x78 x79 x80 x81 x82 x83 x84 x85 x86 x87 x88 x89 x90 x91 x92 x93 x94 x95 x96 x97 x98 x99 x100 x101 x102 x103 x104 x105 x106 x107 x108 x109 x110 x111 x112 x113 x114 x115 x116 x117 x118 x119 x120 x121 x122 x123 x125 x126 x127 x128 x129 x130 x131 x132 x133 x134 x135 x136 x137 x138 x139 x140 x141 x142 x143 x144 x145 x146 x147 x148 x149 x150 x151 x152 x153 x154 x155 x156 x157 x158 x159 x160 x161 x162 x163 x164 x165 x166 x167 x168 x169 x170 x171 x172 x173 x174 x175 x176 x177 x178 x179 x180 x181 x182 x183 x184 x185 x186 x187 x188 x189 x190 x191 x192 x193 x194 x195 x196 x197 x198 x199 x200 x201 x202 x203 x204 x205 x206 x207 x208 x209 x210 x211 x212 x213 x214 x215 x216 x217 x218 x219 x220 x221 x222 x223 x224 x225 x226 x227 : Value}
    (hN : ∀ {V : World} {x0 x2 x3 x4 x5 x7 x8 x9 x10 x11 x12 x15 x26 x27 x29 x30 x31 x32 x33 x34 x35 x36 x37 x38 x39 x40 x41 x42 x43 x44 x45 x46 x47 x48 x49 x50 x51 x52 x53 x54 x55 x56 x57 x58 x59 x60 x61 x62 x63 x64 x65 x66 x67 x68 x69 x70 x71 x72 x73 x74 x75 x76 x77 x78 x79 x80 x81 x82 x83 x84 x85 x86 x87 x88 x89 x90 x91 x92 x93 x94 x95 x96 x97 x98 x99 x100 x101 x102 x103 x104 x105 x106 x107 x108 x109 x110 x111 x112 x113 x114 x115 x116 x117 x118 x119 x120 x121 x122 x123 x124 x125 x126 x127 x128 x129 x130 x131 x132 x133 x134 x136 x137 x138 x139 x140 x141 x142 x143 x144 x145 x146 x147 x148 x149 x150 x151 x152 x153 x154 x155 x156 x157 x158 x159 x160 x161 x162 x163 x164 x165 x166 x167 x168 x169 x170 x171 x172 x173 x174 x175 x176 x177 x178 x179 x180 x181 x182 x183 x184 x185 x186 x187 x188 x189 x190 x191 x192 x193 x194 x195 x196 x197 x198 x199 x200 x201 x202 x203 x204 x205 x206 x207 x208 x209 x210 x211 x212 x213 x214 x215 x216 x217 x218 x219 x220 x221 x222 x223 x224 x225 x226 x227 : Value}, Hid (Below D.heap.size D V) → wpAnyH Tryz.prog .any ops Q Z 93 #[true, true, true, true, true, true, true, true, true, true, true, true, true, true, true, true, true, true, true, true, true, true, true, true, true, true, true, true, true, true, true, true, true, true, true, true, true, false, false, false, false, false, false, false, false, false, false, false, false, false, false, false, false, false, false, false, false, false, false, false, false, false, false, false, false, false, false, false, false, false, false, false, false, false, false, false, false, false, false, false, false, false, false, false, false, false, false, false, false, false, false, false, false, false, false, false, false, false, false, false, false, false, false, false, false, false, false, false, false, false, false, false, false, false, false, false, false, false, false, false, false, false, false, false, false, false, false, false, false, false] ⟨#[x0, .pointer (some ⟨b1, 0, none⟩), x2, x3, x4, x5, .pointer (some ⟨b2, 0, none⟩), x7, x8, x9, x10, x11, x12, .pointer (some ⟨b4, 0, none⟩), .int .i64 0, x15, .int .i64 3, .string ⟨#[99]⟩, .string ⟨#[109]⟩, .bool true, .string ⟨#[109]⟩, .string ⟨#[]⟩, .bool false, .string ⟨#[109]⟩, .string ⟨#[110]⟩, .bool true, x26, x27, .bool false, x29, x30, x31, x32, x33, x34, x35, x36, x37, x38, x39, x40, x41, x42, x43, x44, x45, x46, x47, x48, x49, x50, x51, x52, x53, x54, x55, x56, x57, x58, x59, x60, x61, x62, x63, x64, x65, x66, x67, x68, x69, x70, x71, x72, x73, x74, x75, x76, x77, x78, x79, x80, x81, x82, x83, x84, x85, x86, x87, x88, x89, x90, x91, x92, x93, x94, x95, x96, x97, x98, x99, x100, x101, x102, x103, x104, x105, x106, x107, x108, x109, x110, x111, x112, x113, x114, x115, x116, x117, x118, x119, x120, x121, x122, x123, x124, x125, x126, x127, x128, x129, x130, x131, x132, x133, x134, .bool true, x136, x137, x138, x139, x140, x141, x142, x143, x144, x145, x146, x147, x148, x149, x150, x151, x152, x153, x154, x155, x156, x157, x158, x159, x160, x161, x162, x163, x164, x165, x166, x167, x168, x169, x170, x171, x172, x173, x174, x175, x176, x177, x178, x179, x180, x181, x182, x183, x184, x185, x186, x187, x188, x189, x190, x191, x192, x193, x194, x195, x196, x197, x198, x199, x200, x201, x202, x203, x204, x205, x206, x207, x208, x209, x210, x211, x212, x213, x214, x215, x216, x217, x218, x219, x220, x221, x222, x223, x224, x225, x226, x227], []⟩ V) : wpAnyH Tryz.prog .any ops Q Z 104 #[true, true, true, true, true, true, true, true, true, true, true, true, true, true, true, true, true, true, true, true, true, true, true, true, true, true, false, false, false, false, false, false, false, false, false, false, false, false, false, false, false, false, false, false, false, false, false, false, false, false, false, false, false, false, false, false, false, false, false, false, false, false, false, false, false, false, false, false, false, false, false, false, false, false, false, false, false, false, false, false, false, false, false, false, false, false, false, false, false, false, false, false, false, false, false, false, false, false, false, false, false, false, false, false, false, false, false, false, false, false, false, false, false, false, false, false, false, false, false, false, false, false, false, false, false, false, false, false, false, false] ⟨#[x0, .pointer (some ⟨b1, 0, none⟩), x2, x3, x4, x5, .pointer (some ⟨b2, 0, none⟩), x7, x8, x9, x10, .pointer (some ⟨b3, 0, none⟩), .int .i64 0, .pointer (some ⟨b4, 0, none⟩), .int .i64 0, x15, .int .i64 3, .string ⟨#[99]⟩, .string ⟨#[109]⟩, .bool true, .string ⟨#[109]⟩, .string ⟨#[]⟩, .bool false, .string ⟨#[109]⟩, .string ⟨#[110]⟩, .bool true, x26, x27, .bool false, x29, x30, x31, x32, x33, x34, x35, x36, x37, x38, x39, x40, x41, x42, x43, x44, x45, x46, x47, x48, x49, x50, x51, x52, x53, x54, x55, x56, x57, x58, x59, x60, x61, x62, x63, x64, x65, x66, x67, x68, x69, x70, x71, x72, x73, x74, x75, x76, x77, x78, x79, x80, x81, x82, x83, x84, x85, x86, x87, x88, x89, x90, x91, x92, x93, x94, x95, x96, x97, x98, x99, x100, x101, x102, x103, x104, x105, x106, x107, x108, x109, x110, x111, x112, x113, x114, x115, x116, x117, x118, x119, x120, x121, x122, x123, .bool true, x125, x126, x127, x128, x129, x130, x131, x132, x133, x134, x135, x136, x137, x138, x139, x140, x141, x142, x143, x144, x145, x146, x147, x148, x149, x150, x151, x152, x153, x154, x155, x156, x157, x158, x159, x160, x161, x162, x163, x164, x165, x166, x167, x168, x169, x170, x171, x172, x173, x174, x175, x176, x177, x178, x179, x180, x181, x182, x183, x184, x185, x186, x187, x188, x189, x190, x191, x192, x193, x194, x195, x196, x197, x198, x199, x200, x201, x202, x203, x204, x205, x206, x207, x208, x209, x210, x211, x212, x213, x214, x215, x216, x217, x218, x219, x220, x221, x222, x223, x224, x225, x226, x227], []⟩ W := by
  have RS1 := Lib.hid (fun W (h1 : Rows2 W AH3 2 caH3 CH3 1 cbH3 [4, 5] ms) (h2 : Rows2 W (some ⟨q1, 0, none⟩) 2 2 (some ⟨d1, 0, none⟩) 1 1 [4, 5] ms) => rsame_any 9 1 0 ⟨#[]⟩ AH3 2 caH3 CH3 1 cbH3 [4, 5] ms 9 1 0 ⟨#[]⟩ (some ⟨q1, 0, none⟩) 2 2 (some ⟨d1, 0, none⟩) 1 1 [4, 5] ms W h1 h2 (by omega) (by omega) (by omega) (by omega))
  rw [decide_eq_true rfl] at RS1
  simp only [fixOps, regOps, secondLast, Tryz.f19, Option.bind_some, Option.map_some, lastTwo, Option.getD_some, Option.getD_none, List.append, List.append_eq, List.cons_append, List.nil_append] at ho
  subst ho
  (try dsimp only at hN)
  (try dsimp only)
  have hZ := E.out.below _ HW.out
  refine take_op (i := 26) (d := some 125) (v := ?_) rfl rfl (by kernel_rfl) (by kernel_rfl) (by kernel_rfl) (fun c a V h => hQ c _ a _ V h) (Or.inl ⟨by kernel_rfl, ?_⟩) hZ ?_
  rotate_left
  · intro W' hSw; obtain ⟨m0, m1, m2, m3, m4, m5⟩ := E.out.c3 _ hSw; (try dsimp only at hSw); go_simp; (first | done | with_reducible rfl)
  try simp only [Act.put, List.setIfInBounds_toArray, List.set_cons_zero, List.set_cons_succ]
  refine take_op (i := 28) (d := some 127) (v := ?_) rfl rfl (by kernel_rfl) (by kernel_rfl) (by kernel_rfl) (fun c a V h => hQ c _ a _ V h) (Or.inl ⟨by kernel_rfl, ?_⟩) hZ ?_
  rotate_left
  · intro W' hSw; obtain ⟨m0, m1, m2, m3, m4, m5⟩ := E.out.c1 _ hSw; (try dsimp only at hSw); go_simp; (first | done | with_reducible rfl)
  try simp only [Act.put, List.setIfInBounds_toArray, List.set_cons_zero, List.set_cons_succ]
  refine wpAnyH_ready (rs := [27]) (by kernel_rfl) (by simp) (AllReadyH.cons rfl (fun K hK => ?_) AllReadyH.nil)
  go_simp
  refine Calls.mono (ref_any _ _ _ _ _ _ _ _ _ _ _) ?_
  rintro e V ⟨rfl, hb⟩
  go_wp2_with fail
  replace HW := Lib.hid (HW.out.trans' hb)
  replace hZ := E.out.below _ HW.out
  refine hK.out _ _ hZ (fun _ => ?_)
  clear hK hb
  try simp only [Act.put, List.setIfInBounds_toArray, List.set_cons_zero, List.set_cons_succ]
  refine wpAnyH_ready (rs := [29]) (by kernel_rfl) (by simp) (AllReadyH.cons rfl (fun K hK => ?_) AllReadyH.nil)
  go_simp
  refine Calls.mono (ref_any _ _ _ _ _ _ _ _ _ _ _) ?_
  rintro e V ⟨rfl, hb⟩
  go_wp2_with fail
  replace HW := Lib.hid (HW.out.trans' hb)
  replace hZ := E.out.below _ HW.out
  refine hK.out _ _ hZ (fun _ => ?_)
  clear hK hb
  try simp only [Act.put, List.setIfInBounds_toArray, List.set_cons_zero, List.set_cons_succ]
  refine wpAnyH_ready (rs := [30]) (by kernel_rfl) (by simp) (AllReadyH.cons rfl (fun K hK => ?_) AllReadyH.nil)
  go_simp
  refine Calls.mono (fit (RS1.out _ (E.out.r3 _ HW.out) (E.out.r1 _ HW.out)) (by rfl)) ?_
  rintro e V ⟨rfl, hb⟩
  go_wp2_with fail
  replace HW := Lib.hid (HW.out.trans' hb)
  replace hZ := E.out.below _ HW.out
  refine hK.out _ _ hZ (fun _ => ?_)
  clear hK hb
  try simp only [Act.put, List.setIfInBounds_toArray, List.set_cons_zero, List.set_cons_succ]
  refine take_op (i := 31) (d := some 130) (v := ?_) rfl rfl (by kernel_rfl) (by kernel_rfl) (by kernel_rfl) (fun c a V h => hQ c _ a _ V h) (Or.inl ⟨by kernel_rfl, ?_⟩) hZ ?_
  rotate_left
  · intro W' hSw; (try dsimp only at hSw); go_simp; (first | done | with_reducible rfl)
  try simp only [Act.put, List.setIfInBounds_toArray, List.set_cons_zero, List.set_cons_succ]
  refine take_op (i := 32) (d := some 131) (v := ?_) rfl rfl (by kernel_rfl) (by kernel_rfl) (by kernel_rfl) (fun c a V h => hQ c _ a _ V h) (Or.inl ⟨by kernel_rfl, ?_⟩) hZ ?_
  rotate_left
  · intro W' hSw; (try dsimp only at hSw); go_simp; (first | done | with_reducible rfl)
  try simp only [Act.put, List.setIfInBounds_toArray, List.set_cons_zero, List.set_cons_succ]
  refine take_op (i := 33) (d := some 132) (v := ?_) rfl rfl (by kernel_rfl) (by kernel_rfl) (by kernel_rfl) (fun c a V h => hQ c _ a _ V h) (Or.inl ⟨by kernel_rfl, ?_⟩) hZ ?_
  rotate_left
  · intro W' hSw; (try dsimp only at hSw); go_simp; (first | done | with_reducible rfl)
  try simp only [Act.put, List.setIfInBounds_toArray, List.set_cons_zero, List.set_cons_succ]
  refine take_op (i := 34) (d := some 133) (v := ?_) rfl rfl (by kernel_rfl) (by kernel_rfl) (by kernel_rfl) (fun c a V h => hQ c _ a _ V h) (Or.inl ⟨by kernel_rfl, ?_⟩) hZ ?_
  rotate_left
  · intro W' hSw; (try dsimp only at hSw); go_simp; (first | done | with_reducible rfl)
  try simp only [Act.put, List.setIfInBounds_toArray, List.set_cons_zero, List.set_cons_succ]
  refine take_op (i := 35) (d := some 134) (v := ?_) rfl rfl (by kernel_rfl) (by kernel_rfl) (by kernel_rfl) (fun c a V h => hQ c _ a _ V h) (Or.inl ⟨by kernel_rfl, ?_⟩) hZ ?_
  rotate_left
  · intro W' hSw; (try dsimp only at hSw); go_simp; (first | done | with_reducible rfl)
  try simp only [Act.put, List.setIfInBounds_toArray, List.set_cons_zero, List.set_cons_succ]
  refine take_op (i := 36) (d := some 135) (v := ?_) rfl rfl (by kernel_rfl) (by kernel_rfl) (by kernel_rfl) (fun c a V h => hQ c _ a _ V h) (Or.inl ⟨by kernel_rfl, ?_⟩) hZ ?_
  rotate_left
  · intro W' hSw; (try dsimp only at hSw); go_simp; (first | done | with_reducible rfl)
  try simp only [Act.put, List.setIfInBounds_toArray, List.set_cons_zero, List.set_cons_succ]
  exact hN HW
end Go.Proofs.YtembccehokodeaaGreatDoor
