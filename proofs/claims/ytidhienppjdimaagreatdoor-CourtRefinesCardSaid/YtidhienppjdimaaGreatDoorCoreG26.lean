/-
  Part of the engine that the claim is proved with: it states nothing of the document by itself.
-/
import Derived.Test.YtidhienppjdimaaGreatDoorProg
import Derived.Test.YtidhienppjdimaaGreatDoorCoreG0
import Derived.Test.YtidhienppjdimaaGreatDoorCoreG2

section
open Go.Proofs
namespace Go.Ev
def I (n : Nat) : Value := .int .i64 (Int.ofNat n)
def U (n : Nat) : Value := .int .u8 (Int.ofNat n)
noncomputable def s0 : AFrame × AHeap :=
 (⟨105, T.leaf.node (some (.bool false)) T.leaf, []⟩, ⟨T.leaf.node (some (ABk.cells [.string ⟨#[]⟩, I 0, I 0, .bool false, .bool false, .bool false, .string ⟨#[114, 97, 110, 107]⟩, I 0, I 0, .bool false, .bool true, .bool
 true, .string ⟨#[101, 108, 100, 101, 114]⟩, I 0, I 0, .bool false, .bool false, .bool false, .string ⟨#[121, 111, 117, 116, 104]⟩, I 0, I 0, .bool false, .bool false, .bool false, .string ⟨#[115, 105, 100, 101]⟩, I 1, I
 2, .bool true, .bool false, .bool false, .string ⟨#[104, 111, 115, 116]⟩, I 0, I 0, .bool true, .bool false, .bool false, .string ⟨#[116, 111, 110, 103, 117, 101]⟩, I 0, I 0, .bool true, .bool true, .bool false, .string
 ⟨#[99, 111, 117, 114, 116]⟩, I 0, I 0, .bool true, .bool true, .bool false, .string ⟨#[110, 97, 109, 101]⟩, I 0, I 0, .bool false, .bool false, .bool false, .string ⟨#[108, 105, 115, 116]⟩, I 0, I 0, .bool false, .bool
 false, .bool false, .string ⟨#[108, 111, 116]⟩, I 0, I 63, .bool false, .bool false, .bool false] 138 0 none true)) ((T.leaf.node (some (ABk.cells [.int .u64 (Int.ofNat 1), .int .u64 (Int.ofNat 10), .int .u64 (Int.ofNat
 100), .int .u64 (Int.ofNat 1000), .int .u64 (Int.ofNat 10000), .int .u64 (Int.ofNat 100000), .int .u64 (Int.ofNat 1000000), .int .u64 (Int.ofNat 10000000), .int .u64 (Int.ofNat 100000000), .int .u64 (Int.ofNat
 1000000000), .int .u64 (Int.ofNat 10000000000), .int .u64 (Int.ofNat 100000000000), .int .u64 (Int.ofNat 1000000000000), .int .u64 (Int.ofNat 10000000000000), .int .u64 (Int.ofNat 100000000000000), .int .u64 (Int.ofNat
 1000000000000000), .int .u64 (Int.ofNat 10000000000000000), .int .u64 (Int.ofNat 100000000000000000), .int .u64 (Int.ofNat 1000000000000000000), .int .u64 (Int.ofNat 10000000000000000000)] 213 0 none true)) T.leaf).node
 none T.leaf), 9, 9⟩)
noncomputable def s1 : AFrame × AHeap :=
 (⟨105, ((((T.leaf.node (some (.slice (some ⟨11, 0, none⟩) 5 5)) T.leaf).node none T.leaf).node none T.leaf).node (some (.slice (some ⟨10, 0, none⟩) 4 4)) (T.leaf.node none (T.leaf.node (some (.tuple { toList := [.slice
 (some ⟨10, 0, none⟩) 4 4, .slice (some ⟨11, 0, none⟩) 5 5] })) T.leaf))).node (some (.bool false)) ((T.leaf.node none (T.leaf.node (some (.tuple { toList := [.slice (some ⟨10, 0, none⟩) 4 4, .slice (some ⟨11, 0, none⟩) 5
 5] })) T.leaf)).node (some (.slice (some ⟨11, 0, none⟩) 5 5)) (T.leaf.node none (T.leaf.node (some (.slice (some ⟨10, 0, none⟩) 4 4)) T.leaf))), []⟩, ⟨((T.leaf.node none (T.leaf.node (some (ABk.cells [.string ⟨#[97, 100,
 97]⟩, .string ⟨#[99, 111, 117, 110, 116]⟩, .string ⟨#[]⟩, I 0, I 2, .string ⟨#[]⟩, .bool false, .bool false, .slice none 0 0, .string ⟨#[98, 101, 97]⟩, .string ⟨#[100, 117, 107, 101]⟩, .string ⟨#[]⟩, I 1700, I 0, .string
 ⟨#[]⟩, .bool false, .bool false, .slice none 0 0, .string ⟨#[99, 121, 114]⟩, .string ⟨#[100, 117, 107, 101]⟩, .string ⟨#[]⟩, I 1650, I 0, .string ⟨#[]⟩, .bool false, .bool false, .slice none 0 0, .string ⟨#[100, 97,
 110]⟩, .string ⟨#[]⟩, .string ⟨#[]⟩, I 0, I 1, .string ⟨#[]⟩, .bool false, .bool false, .slice none 0 0, .string ⟨#[101, 118, 97]⟩, .string ⟨#[99, 111, 117, 110, 116]⟩, .string ⟨#[]⟩, I 0, I 1, .string ⟨#[]⟩, .bool
 false, .bool false, .slice none 0 0] 25 9 none false)) T.leaf)).node none ((T.leaf.node (some (ABk.cells [.string ⟨#[100, 117, 107, 101]⟩, .string ⟨#[99, 111, 117, 110, 116]⟩] 9 1 none false)) T.leaf).node none
 T.leaf)).node (some (ABk.cells [.string ⟨#[]⟩, I 0, I 0, .bool false, .bool false, .bool false, .string ⟨#[114, 97, 110, 107]⟩, I 0, I 0, .bool false, .bool true, .bool true, .string ⟨#[101, 108, 100, 101, 114]⟩, I 0, I
 0, .bool false, .bool false, .bool false, .string ⟨#[121, 111, 117, 116, 104]⟩, I 0, I 0, .bool false, .bool false, .bool false, .string ⟨#[115, 105, 100, 101]⟩, I 1, I 2, .bool true, .bool false, .bool false, .string
 ⟨#[104, 111, 115, 116]⟩, I 0, I 0, .bool true, .bool false, .bool false, .string ⟨#[116, 111, 110, 103, 117, 101]⟩, I 0, I 0, .bool true, .bool true, .bool false, .string ⟨#[99, 111, 117, 114, 116]⟩, I 0, I 0, .bool
 true, .bool true, .bool false, .string ⟨#[110, 97, 109, 101]⟩, I 0, I 0, .bool false, .bool false, .bool false, .string ⟨#[108, 105, 115, 116]⟩, I 0, I 0, .bool false, .bool false, .bool false, .string ⟨#[108, 111,
 116]⟩, I 0, I 63, .bool false, .bool false, .bool false] 138 0 none true)) ((T.leaf.node (some (ABk.cells [.int .u64 (Int.ofNat 1), .int .u64 (Int.ofNat 10), .int .u64 (Int.ofNat 100), .int .u64 (Int.ofNat 1000), .int
 .u64 (Int.ofNat 10000), .int .u64 (Int.ofNat 100000), .int .u64 (Int.ofNat 1000000), .int .u64 (Int.ofNat 10000000), .int .u64 (Int.ofNat 100000000), .int .u64 (Int.ofNat 1000000000), .int .u64 (Int.ofNat 10000000000),
 .int .u64 (Int.ofNat 100000000000), .int .u64 (Int.ofNat 1000000000000), .int .u64 (Int.ofNat 10000000000000), .int .u64 (Int.ofNat 100000000000000), .int .u64 (Int.ofNat 1000000000000000), .int .u64 (Int.ofNat
 10000000000000000), .int .u64 (Int.ofNat 100000000000000000), .int .u64 (Int.ofNat 1000000000000000000), .int .u64 (Int.ofNat 10000000000000000000)] 213 0 none true)) T.leaf).node none ((T.leaf.node (some (ABk.cells [U
 1, .string ⟨#[]⟩, .bool false, .slice (some ⟨9, 0, none⟩) 2 2, I 0, U 2, .string ⟨#[100, 117, 107, 101]⟩, .bool false, .slice none 0 0, I 0, U 4, .string ⟨#[]⟩, .bool false, .slice none 0 0, I 1, U 8, .string ⟨#[]⟩,
 .bool false, .slice none 0 0, I 0] 57 5 none false)) T.leaf).node none T.leaf)), 12, 9⟩)
noncomputable def s2 : AFrame × AHeap :=
 (⟨105, ((((T.leaf.node (some (.slice (some ⟨11, 0, none⟩) 5 5)) T.leaf).node none T.leaf).node (some (.slice (some ⟨97, 0, none⟩) 5 18446744073709551616)) ((T.leaf.node (some (.tuple { toList := [.slice (some ⟨97, 0,
 none⟩) 5 18446744073709551616, I 0] })) T.leaf).node none T.leaf)).node (some (.slice (some ⟨10, 0, none⟩) 4 4)) (((T.leaf.node (some (.slice (some ⟨10, 0, none⟩) 4 4)) T.leaf).node none T.leaf).node none ((T.leaf.node
 (some (I 0)) T.leaf).node (some (.tuple { toList := [.slice (some ⟨10, 0, none⟩) 4 4, .slice (some ⟨11, 0, none⟩) 5 5] })) T.leaf))).node (some (.bool false)) ((((T.leaf.node (some (.tuple { toList := [.slice (some ⟨97,
 0, none⟩) 5 18446744073709551616, I 0] })) T.leaf).node none T.leaf).node (some (I 0)) ((T.leaf.node (some (.slice (some ⟨97, 0, none⟩) 5 18446744073709551616)) T.leaf).node (some (.tuple { toList := [.slice (some ⟨10,
 0, none⟩) 4 4, .slice (some ⟨11, 0, none⟩) 5 5] })) T.leaf)).node (some (.slice (some ⟨11, 0, none⟩) 5 5)) (((T.leaf.node (some (.slice (some ⟨11, 0, none⟩) 5 5)) T.leaf).node none T.leaf).node none (T.leaf.node (some
 (.slice (some ⟨10, 0, none⟩) 4 4)) T.leaf))), []⟩, ⟨((T.leaf.node none (T.leaf.node (some (ABk.cells [.string ⟨#[97, 100, 97]⟩, .string ⟨#[99, 111, 117, 110, 116]⟩, .string ⟨#[]⟩, I 0, I 2, .string ⟨#[]⟩, .bool false,
 .bool false, .slice none 0 0, .string ⟨#[98, 101, 97]⟩, .string ⟨#[100, 117, 107, 101]⟩, .string ⟨#[]⟩, I 1700, I 0, .string ⟨#[]⟩, .bool false, .bool false, .slice none 0 0, .string ⟨#[99, 121, 114]⟩, .string ⟨#[100,
 117, 107, 101]⟩, .string ⟨#[]⟩, I 1650, I 0, .string ⟨#[]⟩, .bool false, .bool false, .slice none 0 0, .string ⟨#[100, 97, 110]⟩, .string ⟨#[]⟩, .string ⟨#[]⟩, I 0, I 1, .string ⟨#[]⟩, .bool false, .bool false, .slice
 none 0 0, .string ⟨#[101, 118, 97]⟩, .string ⟨#[99, 111, 117, 110, 116]⟩, .string ⟨#[]⟩, I 0, I 1, .string ⟨#[]⟩, .bool false, .bool false, .slice none 0 0] 25 9 none false)) T.leaf)).node none ((((T.leaf.node none
 (T.leaf.node (some (ABk.cells [I 2, I 1, I 4, I 0, I 3] 3 1 (some 96) false)) T.leaf)).node none T.leaf).node (some (ABk.cells [.string ⟨#[100, 117, 107, 101]⟩, .string ⟨#[99, 111, 117, 110, 116]⟩] 9 1 none false))
 T.leaf).node none T.leaf)).node (some (ABk.cells [.string ⟨#[]⟩, I 0, I 0, .bool false, .bool false, .bool false, .string ⟨#[114, 97, 110, 107]⟩, I 0, I 0, .bool false, .bool true, .bool true, .string ⟨#[101, 108, 100,
 101, 114]⟩, I 0, I 0, .bool false, .bool false, .bool false, .string ⟨#[121, 111, 117, 116, 104]⟩, I 0, I 0, .bool false, .bool false, .bool false, .string ⟨#[115, 105, 100, 101]⟩, I 1, I 2, .bool true, .bool false,
 .bool false, .string ⟨#[104, 111, 115, 116]⟩, I 0, I 0, .bool true, .bool false, .bool false, .string ⟨#[116, 111, 110, 103, 117, 101]⟩, I 0, I 0, .bool true, .bool true, .bool false, .string ⟨#[99, 111, 117, 114, 116]⟩,
 I 0, I 0, .bool true, .bool true, .bool false, .string ⟨#[110, 97, 109, 101]⟩, I 0, I 0, .bool false, .bool false, .bool false, .string ⟨#[108, 105, 115, 116]⟩, I 0, I 0, .bool false, .bool false, .bool false, .string
 ⟨#[108, 111, 116]⟩, I 0, I 63, .bool false, .bool false, .bool false] 138 0 none true)) (((((T.leaf.node none (T.leaf.node (some (ABk.cells [I 2, I 1, I 4, I 0] 3 1 (some 97) false)) T.leaf)).node none T.leaf).node none
 T.leaf).node (some (ABk.cells [.int .u64 (Int.ofNat 1), .int .u64 (Int.ofNat 10), .int .u64 (Int.ofNat 100), .int .u64 (Int.ofNat 1000), .int .u64 (Int.ofNat 10000), .int .u64 (Int.ofNat 100000), .int .u64 (Int.ofNat
 1000000), .int .u64 (Int.ofNat 10000000), .int .u64 (Int.ofNat 100000000), .int .u64 (Int.ofNat 1000000000), .int .u64 (Int.ofNat 10000000000), .int .u64 (Int.ofNat 100000000000), .int .u64 (Int.ofNat 1000000000000),
 .int .u64 (Int.ofNat 10000000000000), .int .u64 (Int.ofNat 100000000000000), .int .u64 (Int.ofNat 1000000000000000), .int .u64 (Int.ofNat 10000000000000000), .int .u64 (Int.ofNat 100000000000000000), .int .u64 (Int.ofNat
 1000000000000000000), .int .u64 (Int.ofNat 10000000000000000000)] 213 0 none true)) T.leaf).node none ((T.leaf.node (some (ABk.cells [U 1, .string ⟨#[]⟩, .bool false, .slice (some ⟨9, 0, none⟩) 2 2, I 0, U 2, .string
 ⟨#[100, 117, 107, 101]⟩, .bool false, .slice none 0 0, I 0, U 4, .string ⟨#[]⟩, .bool false, .slice none 0 0, I 1, U 8, .string ⟨#[]⟩, .bool false, .slice none 0 0, I 0] 57 5 none false)) T.leaf).node none T.leaf)), 98,
 9⟩)
noncomputable def s3 : AFrame × AHeap :=
 (⟨105, ((((T.leaf.node (some (.slice (some ⟨11, 0, none⟩) 5 5)) T.leaf).node none (T.leaf.node (some (.slice (some ⟨10, 0, none⟩) 4 4)) T.leaf)).node (some (.slice (some ⟨97, 0, none⟩) 5 18446744073709551616))
 ((T.leaf.node (some (.tuple { toList := [.slice (some ⟨97, 0, none⟩) 5 18446744073709551616, I 0] })) T.leaf).node none (T.leaf.node (some (.slice none 0 0)) T.leaf))).node (some (.slice (some ⟨10, 0, none⟩) 4 4))
 (((T.leaf.node (some (.slice (some ⟨10, 0, none⟩) 4 4)) T.leaf).node none (T.leaf.node (some (.slice (some ⟨11, 0, none⟩) 5 5)) T.leaf)).node (some (.slice none 0 0)) ((T.leaf.node (some (I 0)) T.leaf).node (some (.tuple
 { toList := [.slice (some ⟨10, 0, none⟩) 4 4, .slice (some ⟨11, 0, none⟩) 5 5] })) T.leaf))).node (some (.bool false)) ((((T.leaf.node (some (.tuple { toList := [.slice (some ⟨97, 0, none⟩) 5 18446744073709551616, I 0]
 })) T.leaf).node none (T.leaf.node (some (.slice (some ⟨10, 0, none⟩) 2 4)) T.leaf)).node (some (I 0)) ((T.leaf.node (some (.slice (some ⟨97, 0, none⟩) 5 18446744073709551616)) T.leaf).node (some (.tuple { toList :=
 [.slice (some ⟨10, 0, none⟩) 4 4, .slice (some ⟨11, 0, none⟩) 5 5] })) (T.leaf.node (some (I 32)) T.leaf))).node (some (.slice (some ⟨11, 0, none⟩) 5 5)) (((T.leaf.node (some (.slice (some ⟨11, 0, none⟩) 5 5))
 T.leaf).node none (T.leaf.node (some (.tuple { toList := [.slice none 0 0, I 32] })) T.leaf)).node (some (I 32)) ((T.leaf.node (some (.tuple { toList := [.slice none 0 0, I 32] })) T.leaf).node (some (.slice (some ⟨10,
 0, none⟩) 4 4)) T.leaf))), []⟩, ⟨((T.leaf.node none (T.leaf.node (some (ABk.cells [.string ⟨#[97, 100, 97]⟩, .string ⟨#[99, 111, 117, 110, 116]⟩, .string ⟨#[]⟩, I 0, I 2, .string ⟨#[]⟩, .bool false, .bool false, .slice
 none 0 0, .string ⟨#[98, 101, 97]⟩, .string ⟨#[100, 117, 107, 101]⟩, .string ⟨#[]⟩, I 1700, I 0, .string ⟨#[]⟩, .bool false, .bool false, .slice none 0 0, .string ⟨#[99, 121, 114]⟩, .string ⟨#[100, 117, 107, 101]⟩,
 .string ⟨#[]⟩, I 1650, I 0, .string ⟨#[]⟩, .bool false, .bool false, .slice none 0 0, .string ⟨#[100, 97, 110]⟩, .string ⟨#[]⟩, .string ⟨#[]⟩, I 0, I 1, .string ⟨#[]⟩, .bool false, .bool false, .slice none 0 0, .string
 ⟨#[101, 118, 97]⟩, .string ⟨#[99, 111, 117, 110, 116]⟩, .string ⟨#[]⟩, I 0, I 1, .string ⟨#[]⟩, .bool false, .bool false, .slice none 0 0] 25 9 none false)) T.leaf)).node none ((((T.leaf.node none (T.leaf.node (some
 (ABk.cells [I 2, I 1, I 4, I 0, I 3] 3 1 (some 96) false)) T.leaf)).node none T.leaf).node (some (ABk.cells [.string ⟨#[100, 117, 107, 101]⟩, .string ⟨#[99, 111, 117, 110, 116]⟩] 9 1 none false)) T.leaf).node none
 T.leaf)).node (some (ABk.cells [.string ⟨#[]⟩, I 0, I 0, .bool false, .bool false, .bool false, .string ⟨#[114, 97, 110, 107]⟩, I 0, I 0, .bool false, .bool true, .bool true, .string ⟨#[101, 108, 100, 101, 114]⟩, I 0, I
 0, .bool false, .bool false, .bool false, .string ⟨#[121, 111, 117, 116, 104]⟩, I 0, I 0, .bool false, .bool false, .bool false, .string ⟨#[115, 105, 100, 101]⟩, I 1, I 2, .bool true, .bool false, .bool false, .string
 ⟨#[104, 111, 115, 116]⟩, I 0, I 0, .bool true, .bool false, .bool false, .string ⟨#[116, 111, 110, 103, 117, 101]⟩, I 0, I 0, .bool true, .bool true, .bool false, .string ⟨#[99, 111, 117, 114, 116]⟩, I 0, I 0, .bool
 true, .bool true, .bool false, .string ⟨#[110, 97, 109, 101]⟩, I 0, I 0, .bool false, .bool false, .bool false, .string ⟨#[108, 105, 115, 116]⟩, I 0, I 0, .bool false, .bool false, .bool false, .string ⟨#[108, 111,
 116]⟩, I 0, I 63, .bool false, .bool false, .bool false] 138 0 none true)) (((((T.leaf.node none (T.leaf.node (some (ABk.cells [I 2, I 1, I 4, I 0] 3 1 (some 97) false)) T.leaf)).node none T.leaf).node none T.leaf).node
 (some (ABk.cells [.int .u64 (Int.ofNat 1), .int .u64 (Int.ofNat 10), .int .u64 (Int.ofNat 100), .int .u64 (Int.ofNat 1000), .int .u64 (Int.ofNat 10000), .int .u64 (Int.ofNat 100000), .int .u64 (Int.ofNat 1000000), .int
 .u64 (Int.ofNat 10000000), .int .u64 (Int.ofNat 100000000), .int .u64 (Int.ofNat 1000000000), .int .u64 (Int.ofNat 10000000000), .int .u64 (Int.ofNat 100000000000), .int .u64 (Int.ofNat 1000000000000), .int .u64
 (Int.ofNat 10000000000000), .int .u64 (Int.ofNat 100000000000000), .int .u64 (Int.ofNat 1000000000000000), .int .u64 (Int.ofNat 10000000000000000), .int .u64 (Int.ofNat 100000000000000000), .int .u64 (Int.ofNat
 1000000000000000000), .int .u64 (Int.ofNat 10000000000000000000)] 213 0 none true)) T.leaf).node none ((T.leaf.node (some (ABk.cells [U 1, .string ⟨#[]⟩, .bool false, .slice (some ⟨9, 0, none⟩) 2 2, I 0, U 2, .string
 ⟨#[100, 117, 107, 101]⟩, .bool false, .slice none 0 0, I 0, U 4, .string ⟨#[]⟩, .bool false, .slice none 0 0, I 1, U 8, .string ⟨#[]⟩, .bool false, .slice none 0 0, I 0] 57 5 none false)) T.leaf).node none T.leaf)), 98,
 9⟩)
noncomputable def s4 : AFrame × AHeap :=
 (⟨105, (((((T.leaf.node (some (.slice (some ⟨11, 0, none⟩) 5 5)) T.leaf).node (some (.slice (some ⟨11, 0, none⟩) 5 5)) T.leaf).node (some (I 2)) ((T.leaf.node (some (I 1)) T.leaf).node (some (.slice (some ⟨10, 0, none⟩)
 4 4)) T.leaf)).node (some (.slice (some ⟨97, 0, none⟩) 5 18446744073709551616)) (((T.leaf.node (some (.pointer (some ⟨11, 36, none⟩))) T.leaf).node (some (.tuple { toList := [.slice (some ⟨97, 0, none⟩) 5
 18446744073709551616, I 0] })) T.leaf).node none (T.leaf.node (some (.slice none 0 0)) T.leaf))).node (some (.slice (some ⟨10, 0, none⟩) 4 4)) ((((T.leaf.node (some (.agg { toList := [.string ⟨#[97, 100, 97]⟩, .string
 ⟨#[99, 111, 117, 110, 116]⟩, .string ⟨#[]⟩, I 0, I 2, .string ⟨#[]⟩, .bool false, .bool false, .slice none 0 0] })) T.leaf).node (some (.slice (some ⟨10, 0, none⟩) 4 4)) T.leaf).node none (T.leaf.node (some (.slice (some
 ⟨11, 0, none⟩) 5 5)) T.leaf)).node (some (.slice none 0 0)) (((T.leaf.node (some (.tuple { toList := [I 2, I 1] })) T.leaf).node (some (I 0)) T.leaf).node (some (.tuple { toList := [.slice (some ⟨10, 0, none⟩) 4 4,
 .slice (some ⟨11, 0, none⟩) 5 5] })) (T.leaf.node (some (.tuple { toList := [I 2, I 1] })) T.leaf)))).node (some (.bool false)) (((((T.leaf.node (some (.pointer (some ⟨11, 0, none⟩))) T.leaf).node (some (.tuple { toList
 := [.slice (some ⟨97, 0, none⟩) 5 18446744073709551616, I 0] })) T.leaf).node (some (I 1)) (T.leaf.node (some (.slice (some ⟨10, 0, none⟩) 2 4)) T.leaf)).node (some (I 0)) (((T.leaf.node (some (.agg { toList := [.string
 ⟨#[101, 118, 97]⟩, .string ⟨#[99, 111, 117, 110, 116]⟩, .string ⟨#[]⟩, I 0, I 1, .string ⟨#[]⟩, .bool false, .bool false, .slice none 0 0] })) T.leaf).node (some (.slice (some ⟨97, 0, none⟩) 5 18446744073709551616))
 T.leaf).node (some (.tuple { toList := [.slice (some ⟨10, 0, none⟩) 4 4, .slice (some ⟨11, 0, none⟩) 5 5] })) (T.leaf.node (some (I 32)) T.leaf))).node (some (.slice (some ⟨11, 0, none⟩) 5 5)) ((((T.leaf.node (some
 (.slice (some ⟨11, 0, none⟩) 5 5)) T.leaf).node (some (.slice (some ⟨11, 0, none⟩) 5 5)) T.leaf).node none (T.leaf.node (some (.tuple { toList := [.slice none 0 0, I 32] })) T.leaf)).node (some (I 32)) (((T.leaf.node
 (some (I 2)) T.leaf).node (some (.tuple { toList := [.slice none 0 0, I 32] })) T.leaf).node (some (.slice (some ⟨10, 0, none⟩) 4 4)) (T.leaf.node (some (.slice (some ⟨10, 0, none⟩) 4 4)) T.leaf)))), []⟩, ⟨((T.leaf.node
 none (T.leaf.node (some (ABk.cells [.string ⟨#[97, 100, 97]⟩, .string ⟨#[99, 111, 117, 110, 116]⟩, .string ⟨#[]⟩, I 0, I 2, .string ⟨#[]⟩, .bool false, .bool false, .slice none 0 0, .string ⟨#[98, 101, 97]⟩, .string
 ⟨#[100, 117, 107, 101]⟩, .string ⟨#[]⟩, I 1700, I 0, .string ⟨#[]⟩, .bool false, .bool false, .slice none 0 0, .string ⟨#[99, 121, 114]⟩, .string ⟨#[100, 117, 107, 101]⟩, .string ⟨#[]⟩, I 1650, I 0, .string ⟨#[]⟩, .bool
 false, .bool false, .slice none 0 0, .string ⟨#[100, 97, 110]⟩, .string ⟨#[]⟩, .string ⟨#[]⟩, I 0, I 1, .string ⟨#[]⟩, .bool false, .bool false, .slice none 0 0, .string ⟨#[101, 118, 97]⟩, .string ⟨#[99, 111, 117, 110,
 116]⟩, .string ⟨#[]⟩, I 0, I 1, .string ⟨#[]⟩, .bool false, .bool false, .slice none 0 0] 25 9 none false)) T.leaf)).node none ((((T.leaf.node none (T.leaf.node (some (ABk.cells [I 2, I 1, I 4, I 0, I 3] 3 1 (some 96)
 false)) T.leaf)).node none T.leaf).node (some (ABk.cells [.string ⟨#[100, 117, 107, 101]⟩, .string ⟨#[99, 111, 117, 110, 116]⟩] 9 1 none false)) T.leaf).node none T.leaf)).node (some (ABk.cells [.string ⟨#[]⟩, I 0, I 0,
 .bool false, .bool false, .bool false, .string ⟨#[114, 97, 110, 107]⟩, I 0, I 0, .bool false, .bool true, .bool true, .string ⟨#[101, 108, 100, 101, 114]⟩, I 0, I 0, .bool false, .bool false, .bool false, .string ⟨#[121,
 111, 117, 116, 104]⟩, I 0, I 0, .bool false, .bool false, .bool false, .string ⟨#[115, 105, 100, 101]⟩, I 1, I 2, .bool true, .bool false, .bool false, .string ⟨#[104, 111, 115, 116]⟩, I 0, I 0, .bool true, .bool false,
 .bool false, .string ⟨#[116, 111, 110, 103, 117, 101]⟩, I 0, I 0, .bool true, .bool true, .bool false, .string ⟨#[99, 111, 117, 114, 116]⟩, I 0, I 0, .bool true, .bool true, .bool false, .string ⟨#[110, 97, 109, 101]⟩, I
 0, I 0, .bool false, .bool false, .bool false, .string ⟨#[108, 105, 115, 116]⟩, I 0, I 0, .bool false, .bool false, .bool false, .string ⟨#[108, 111, 116]⟩, I 0, I 63, .bool false, .bool false, .bool false] 138 0 none
 true)) (((((T.leaf.node none (T.leaf.node (some (ABk.cells [I 2, I 1, I 4, I 0] 3 1 (some 97) false)) T.leaf)).node none T.leaf).node none T.leaf).node (some (ABk.cells [.int .u64 (Int.ofNat 1), .int .u64 (Int.ofNat 10),
 .int .u64 (Int.ofNat 100), .int .u64 (Int.ofNat 1000), .int .u64 (Int.ofNat 10000), .int .u64 (Int.ofNat 100000), .int .u64 (Int.ofNat 1000000), .int .u64 (Int.ofNat 10000000), .int .u64 (Int.ofNat 100000000), .int .u64
 (Int.ofNat 1000000000), .int .u64 (Int.ofNat 10000000000), .int .u64 (Int.ofNat 100000000000), .int .u64 (Int.ofNat 1000000000000), .int .u64 (Int.ofNat 10000000000000), .int .u64 (Int.ofNat 100000000000000), .int .u64
 (Int.ofNat 1000000000000000), .int .u64 (Int.ofNat 10000000000000000), .int .u64 (Int.ofNat 100000000000000000), .int .u64 (Int.ofNat 1000000000000000000), .int .u64 (Int.ofNat 10000000000000000000)] 213 0 none true))
 T.leaf).node none ((T.leaf.node (some (ABk.cells [U 1, .string ⟨#[]⟩, .bool false, .slice (some ⟨9, 0, none⟩) 2 2, I 0, U 2, .string ⟨#[100, 117, 107, 101]⟩, .bool false, .slice none 0 0, I 0, U 4, .string ⟨#[]⟩, .bool
 false, .slice none 0 0, I 1, U 8, .string ⟨#[]⟩, .bool false, .slice none 0 0, I 0] 57 5 none false)) T.leaf).node none T.leaf)), 98, 9⟩)
noncomputable def s5 : AFrame × AHeap :=
 (⟨105, ((((((T.leaf.node (some (.slice (some ⟨150, 0, none⟩) 3 18446744073709551616)) T.leaf).node (some (.slice (some ⟨11, 0, none⟩) 5 5)) T.leaf).node (some (.slice (some ⟨11, 0, none⟩) 5 5)) (T.leaf.node (some (.bool
 false)) T.leaf)).node (some (I 2)) (((T.leaf.node (some (.slice (some ⟨11, 0, none⟩) 5 5)) T.leaf).node (some (I 1)) T.leaf).node (some (.slice (some ⟨10, 0, none⟩) 4 4)) (T.leaf.node (some (.bool false)) T.leaf))).node
 (some (.slice (some ⟨97, 0, none⟩) 5 18446744073709551616)) ((((T.leaf.node (some (.bool false)) T.leaf).node (some (.pointer (some ⟨11, 36, none⟩))) T.leaf).node (some (.tuple { toList := [.slice (some ⟨97, 0, none⟩) 5
 18446744073709551616, I 0] })) (T.leaf.node (some (.bool false)) T.leaf)).node none (((T.leaf.node (some (.bool false)) T.leaf).node (some (.slice (some ⟨97, 0, none⟩) 5 18446744073709551616)) T.leaf).node (some (.slice
 none 0 0)) (T.leaf.node (some (.bool false)) T.leaf)))).node (some (.slice (some ⟨10, 0, none⟩) 4 4)) (((((T.leaf.node (some (.bool true)) T.leaf).node (some (.agg { toList := [.string ⟨#[97, 100, 97]⟩, .string ⟨#[99,
 111, 117, 110, 116]⟩, .string ⟨#[]⟩, I 0, I 2, .string ⟨#[]⟩, .bool false, .bool false, .slice none 0 0] })) T.leaf).node (some (.slice (some ⟨10, 0, none⟩) 4 4)) (T.leaf.node (some (I 32)) T.leaf)).node none
 (((T.leaf.node (some (.slice (some ⟨222, 0, none⟩) 5 5)) T.leaf).node (some (.bool false)) T.leaf).node (some (.slice (some ⟨11, 0, none⟩) 5 5)) (T.leaf.node (some (I 1)) T.leaf))).node (some (.slice none 0 0))
 ((((T.leaf.node (some (.slice (some ⟨10, 0, none⟩) 4 4)) T.leaf).node (some (.tuple { toList := [I 2, I 1] })) T.leaf).node (some (I 0)) (T.leaf.node (some (I 2)) T.leaf)).node (some (.tuple { toList := [.slice (some
 ⟨10, 0, none⟩) 4 4, .slice (some ⟨11, 0, none⟩) 5 5] })) ((T.leaf.node (some (.bool true)) T.leaf).node (some (.tuple { toList := [I 2, I 1] })) (T.leaf.node (some (.slice (some ⟨10, 0, none⟩) 4 4)) T.leaf))))).node
 (some (.bool false)) ((((((T.leaf.node (some (.slice (some ⟨151, 0, none⟩) 3 3)) T.leaf).node (some (.pointer (some ⟨11, 0, none⟩))) T.leaf).node (some (.tuple { toList := [.slice (some ⟨97, 0, none⟩) 5
 18446744073709551616, I 0] })) (T.leaf.node (some (.bool false)) T.leaf)).node (some (I 1)) (((T.leaf.node (some (.slice (some ⟨152, 0, none⟩) 5 5)) T.leaf).node (some (I 0)) T.leaf).node (some (.slice (some ⟨10, 0,
 none⟩) 2 4)) (T.leaf.node (some (.bool false)) T.leaf))).node (some (I 0)) ((((T.leaf.node (some (.bool false)) T.leaf).node (some (.agg { toList := [.string ⟨#[101, 118, 97]⟩, .string ⟨#[99, 111, 117, 110, 116]⟩,
 .string ⟨#[]⟩, I 0, I 1, .string ⟨#[]⟩, .bool false, .bool false, .slice none 0 0] })) T.leaf).node (some (.slice (some ⟨97, 0, none⟩) 5 18446744073709551616)) (T.leaf.node (some (.bool false)) T.leaf)).node (some
 (.tuple { toList := [.slice (some ⟨10, 0, none⟩) 4 4, .slice (some ⟨11, 0, none⟩) 5 5] })) (((T.leaf.node (some (.bool false)) T.leaf).node (some (.slice (some ⟨98, 0, none⟩) 5 5)) T.leaf).node (some (I 32)) (T.leaf.node
 (some (.bool false)) T.leaf)))).node (some (.slice (some ⟨11, 0, none⟩) 5 5)) (((((T.leaf.node (some (.bool false)) T.leaf).node (some (.slice (some ⟨11, 0, none⟩) 5 5)) T.leaf).node (some (.slice (some ⟨11, 0, none⟩) 5
 5)) (T.leaf.node (some (.bool false)) T.leaf)).node none (((T.leaf.node (some (.bool true)) T.leaf).node (some (.bool false)) T.leaf).node (some (.tuple { toList := [.slice none 0 0, I 32] })) (T.leaf.node (some (.bool
 false)) T.leaf))).node (some (I 32)) ((((T.leaf.node (some (.slice (some ⟨10, 0, none⟩) 2 4)) T.leaf).node (some (I 2)) T.leaf).node (some (.tuple { toList := [.slice none 0 0, I 32] })) (T.leaf.node (some (.bool false))
 T.leaf)).node (some (.slice (some ⟨10, 0, none⟩) 4 4)) ((T.leaf.node (some (.bool false)) T.leaf).node (some (.slice (some ⟨10, 0, none⟩) 4 4)) (T.leaf.node (some (.slice (some ⟨11, 0, none⟩) 5 5)) T.leaf))))), []⟩,
 ⟨(((T.leaf.node none (T.leaf.node none (((T.leaf.node (some (ABk.cells [I 0, I 1, I 2] 3 1 none false)) T.leaf).node none T.leaf).node none T.leaf))).node none (T.leaf.node (some (ABk.cells [.string ⟨#[97, 100, 97]⟩,
 .string ⟨#[99, 111, 117, 110, 116]⟩, .string ⟨#[]⟩, I 0, I 2, .string ⟨#[]⟩, .bool false, .bool false, .slice none 0 0, .string ⟨#[98, 101, 97]⟩, .string ⟨#[100, 117, 107, 101]⟩, .string ⟨#[]⟩, I 1700, I 0, .string
 ⟨#[]⟩, .bool false, .bool false, .slice none 0 0, .string ⟨#[99, 121, 114]⟩, .string ⟨#[100, 117, 107, 101]⟩, .string ⟨#[]⟩, I 1650, I 0, .string ⟨#[]⟩, .bool false, .bool false, .slice none 0 0, .string ⟨#[100, 97,
 110]⟩, .string ⟨#[]⟩, .string ⟨#[]⟩, I 0, I 1, .string ⟨#[]⟩, .bool false, .bool false, .slice none 0 0, .string ⟨#[101, 118, 97]⟩, .string ⟨#[99, 111, 117, 110, 116]⟩, .string ⟨#[]⟩, I 0, I 1, .string ⟨#[]⟩, .bool
 false, .bool false, .slice none 0 0] 25 9 none false)) T.leaf)).node none ((((T.leaf.node none (T.leaf.node (some (ABk.cells [I 2, I 1, I 4, I 0, I 3] 3 1 (some 96) false)) T.leaf)).node none T.leaf).node (some
 (ABk.cells [.string ⟨#[100, 117, 107, 101]⟩, .string ⟨#[99, 111, 117, 110, 116]⟩] 9 1 none false)) T.leaf).node none T.leaf)).node (some (ABk.cells [.string ⟨#[]⟩, I 0, I 0, .bool false, .bool false, .bool false, .string
 ⟨#[114, 97, 110, 107]⟩, I 0, I 0, .bool false, .bool true, .bool true, .string ⟨#[101, 108, 100, 101, 114]⟩, I 0, I 0, .bool false, .bool false, .bool false, .string ⟨#[121, 111, 117, 116, 104]⟩, I 0, I 0, .bool false,
 .bool false, .bool false, .string ⟨#[115, 105, 100, 101]⟩, I 1, I 2, .bool true, .bool false, .bool false, .string ⟨#[104, 111, 115, 116]⟩, I 0, I 0, .bool true, .bool false, .bool false, .string ⟨#[116, 111, 110, 103,
 117, 101]⟩, I 0, I 0, .bool true, .bool true, .bool false, .string ⟨#[99, 111, 117, 114, 116]⟩, I 0, I 0, .bool true, .bool true, .bool false, .string ⟨#[110, 97, 109, 101]⟩, I 0, I 0, .bool false, .bool false, .bool
 false, .string ⟨#[108, 105, 115, 116]⟩, I 0, I 0, .bool false, .bool false, .bool false, .string ⟨#[108, 111, 116]⟩, I 0, I 63, .bool false, .bool false, .bool false] 138 0 none true)) (((((T.leaf.node none (T.leaf.node
 (some (ABk.cells [I 2, I 1, I 4, I 0] 3 1 (some 97) false)) T.leaf)).node none T.leaf).node none (T.leaf.node none (((T.leaf.node (some (ABk.cells [I 2, I 1, I 0, I 3, I 2] 3 1 none false)) T.leaf).node none T.leaf).node
 none T.leaf))).node (some (ABk.cells [.int .u64 (Int.ofNat 1), .int .u64 (Int.ofNat 10), .int .u64 (Int.ofNat 100), .int .u64 (Int.ofNat 1000), .int .u64 (Int.ofNat 10000), .int .u64 (Int.ofNat 100000), .int .u64
 (Int.ofNat 1000000), .int .u64 (Int.ofNat 10000000), .int .u64 (Int.ofNat 100000000), .int .u64 (Int.ofNat 1000000000), .int .u64 (Int.ofNat 10000000000), .int .u64 (Int.ofNat 100000000000), .int .u64 (Int.ofNat
 1000000000000), .int .u64 (Int.ofNat 10000000000000), .int .u64 (Int.ofNat 100000000000000), .int .u64 (Int.ofNat 1000000000000000), .int .u64 (Int.ofNat 10000000000000000), .int .u64 (Int.ofNat 100000000000000000), .int
 .u64 (Int.ofNat 1000000000000000000), .int .u64 (Int.ofNat 10000000000000000000)] 213 0 none true)) ((T.leaf.node none (((T.leaf.node (some (ABk.cells [I 0, I 1] 3 1 (some 150) false)) T.leaf).node none T.leaf).node none
 T.leaf)).node none T.leaf)).node none ((((T.leaf.node none (T.leaf.node (some (ABk.cells [I 2, I 1, I 4, I 0, I 3] 3 1 none false)) T.leaf)).node none T.leaf).node (some (ABk.cells [U 1, .string ⟨#[]⟩, .bool false,
 .slice (some ⟨9, 0, none⟩) 2 2, I 0, U 2, .string ⟨#[100, 117, 107, 101]⟩, .bool false, .slice none 0 0, I 0, U 4, .string ⟨#[]⟩, .bool false, .slice none 0 0, I 1, U 8, .string ⟨#[]⟩, .bool false, .slice none 0 0, I 0]
 57 5 none false)) T.leaf).node none ((T.leaf.node none (((T.leaf.node (some (ABk.cells [I 0, I 1, I 2] 3 1 (some 148) false)) T.leaf).node none T.leaf).node none T.leaf)).node none (T.leaf.node none ((T.leaf.node none
 (T.leaf.node (some (ABk.cells [I 2, I 1, I 0, I 3, I 2] 3 1 none false)) T.leaf)).node none T.leaf))))), 223, 9⟩)
noncomputable def s7 : AFrame × AHeap :=
 (⟨105, ((((((T.leaf.node (some (.slice (some ⟨150, 0, none⟩) 3 18446744073709551616)) T.leaf).node (some (.slice (some ⟨11, 0, none⟩) 5 5)) T.leaf).node (some (.slice (some ⟨11, 0, none⟩) 5 5)) ((T.leaf.node (some
 (.slice (some ⟨243, 0, none⟩) 4 18446744073709551616)) T.leaf).node (some (.bool false)) T.leaf)).node (some (I 2)) (((T.leaf.node (some (.slice (some ⟨11, 0, none⟩) 5 5)) T.leaf).node (some (I 1)) T.leaf).node (some
 (.slice (some ⟨10, 0, none⟩) 4 4)) (T.leaf.node (some (.bool false)) T.leaf))).node (some (.slice (some ⟨97, 0, none⟩) 5 18446744073709551616)) ((((T.leaf.node (some (.bool false)) T.leaf).node (some (.pointer (some ⟨11,
 36, none⟩))) T.leaf).node (some (.tuple { toList := [.slice (some ⟨97, 0, none⟩) 5 18446744073709551616, I 0] })) (T.leaf.node (some (.bool false)) T.leaf)).node (some (I 0)) (((T.leaf.node (some (.bool false))
 T.leaf).node (some (.slice (some ⟨97, 0, none⟩) 5 18446744073709551616)) T.leaf).node (some (.slice none 0 0)) (T.leaf.node (some (.bool false)) T.leaf)))).node (some (.slice (some ⟨10, 0, none⟩) 4 4)) (((((T.leaf.node
 (some (.bool true)) T.leaf).node (some (.agg { toList := [.string ⟨#[97, 100, 97]⟩, .string ⟨#[99, 111, 117, 110, 116]⟩, .string ⟨#[]⟩, I 0, I 2, .string ⟨#[]⟩, .bool false, .bool false, .slice none 0 0] })) T.leaf).node
 (some (.slice (some ⟨10, 0, none⟩) 4 4)) ((T.leaf.node (some (I 0)) T.leaf).node (some (I 32)) T.leaf)).node (some (.slice (some ⟨243, 0, none⟩) 4 18446744073709551616)) (((T.leaf.node (some (.slice (some ⟨222, 0, none⟩)
 5 5)) T.leaf).node (some (.bool false)) T.leaf).node (some (.slice (some ⟨11, 0, none⟩) 5 5)) (T.leaf.node (some (I 1)) T.leaf))).node (some (.slice none 0 0)) ((((T.leaf.node (some (.slice (some ⟨10, 0, none⟩) 4 4))
 T.leaf).node (some (.tuple { toList := [I 2, I 1] })) T.leaf).node (some (I 0)) (T.leaf.node (some (I 2)) T.leaf)).node (some (.tuple { toList := [.slice (some ⟨10, 0, none⟩) 4 4, .slice (some ⟨11, 0, none⟩) 5 5] }))
 (((T.leaf.node (some (.tuple { toList := [.slice (some ⟨243, 0, none⟩) 4 18446744073709551616, I 0, I 0] })) T.leaf).node (some (.bool true)) T.leaf).node (some (.tuple { toList := [I 2, I 1] })) (T.leaf.node (some
 (.slice (some ⟨10, 0, none⟩) 4 4)) T.leaf))))).node (some (.bool false)) ((((((T.leaf.node (some (.slice (some ⟨151, 0, none⟩) 3 3)) T.leaf).node (some (.pointer (some ⟨11, 0, none⟩))) T.leaf).node (some (.tuple { toList
 := [.slice (some ⟨97, 0, none⟩) 5 18446744073709551616, I 0] })) ((T.leaf.node (some (I 0)) T.leaf).node (some (.bool false)) T.leaf)).node (some (I 1)) (((T.leaf.node (some (.slice (some ⟨152, 0, none⟩) 5 5))
 T.leaf).node (some (I 0)) T.leaf).node (some (.slice (some ⟨10, 0, none⟩) 2 4)) (T.leaf.node (some (.bool false)) T.leaf))).node (some (I 0)) ((((T.leaf.node (some (.bool false)) T.leaf).node (some (.agg { toList :=
 [.string ⟨#[101, 118, 97]⟩, .string ⟨#[99, 111, 117, 110, 116]⟩, .string ⟨#[]⟩, I 0, I 1, .string ⟨#[]⟩, .bool false, .bool false, .slice none 0 0] })) T.leaf).node (some (.slice (some ⟨97, 0, none⟩) 5
 18446744073709551616)) (T.leaf.node (some (.bool false)) T.leaf)).node (some (.tuple { toList := [.slice (some ⟨10, 0, none⟩) 4 4, .slice (some ⟨11, 0, none⟩) 5 5] })) (((T.leaf.node (some (.bool false)) T.leaf).node
 (some (.slice (some ⟨98, 0, none⟩) 5 5)) T.leaf).node (some (I 32)) (T.leaf.node (some (.bool false)) T.leaf)))).node (some (.slice (some ⟨11, 0, none⟩) 5 5)) (((((T.leaf.node (some (.bool false)) T.leaf).node (some
 (.slice (some ⟨11, 0, none⟩) 5 5)) T.leaf).node (some (.slice (some ⟨11, 0, none⟩) 5 5)) (T.leaf.node (some (.bool false)) T.leaf)).node (some (I 0)) (((T.leaf.node (some (.bool true)) T.leaf).node (some (.bool false))
 T.leaf).node (some (.tuple { toList := [.slice none 0 0, I 32] })) (T.leaf.node (some (.bool false)) T.leaf))).node (some (I 32)) ((((T.leaf.node (some (.slice (some ⟨10, 0, none⟩) 2 4)) T.leaf).node (some (I 2))
 T.leaf).node (some (.tuple { toList := [.slice none 0 0, I 32] })) (T.leaf.node (some (.bool false)) T.leaf)).node (some (.slice (some ⟨10, 0, none⟩) 4 4)) (((T.leaf.node (some (.tuple { toList := [.slice (some ⟨243, 0,
 none⟩) 4 18446744073709551616, I 0, I 0] })) T.leaf).node (some (.bool false)) T.leaf).node (some (.slice (some ⟨10, 0, none⟩) 4 4)) (T.leaf.node (some (.slice (some ⟨11, 0, none⟩) 5 5)) T.leaf))))), []⟩, ⟨(((T.leaf.node
 none ((T.leaf.node none (T.leaf.node none (T.leaf.node (some (ABk.cells [.string ⟨#[100, 117, 107, 101]⟩, .string ⟨#[99, 111, 117, 110, 116]⟩] 9 1 none false)) T.leaf))).node none (((T.leaf.node (some (ABk.cells [I 0, I
 1, I 2] 3 1 none false)) T.leaf).node none T.leaf).node none T.leaf))).node none ((T.leaf.node none (T.leaf.node none (T.leaf.node none (T.leaf.node (some (ABk.cells [U 1, .string ⟨#[]⟩, .bool false, .slice (some ⟨231,
 0, none⟩) 2 18446744073709551616, I 0, U 2, .string ⟨#[100, 117, 107, 101]⟩, .bool false, .slice none 0 0, I 0, U 4, .string ⟨#[]⟩, .bool false, .slice none 0 0, I 1, U 8, .string ⟨#[]⟩, .bool false, .slice none 0 0, I
 0] 57 5 (some 240) false)) T.leaf)))).node (some (ABk.cells [.string ⟨#[97, 100, 97]⟩, .string ⟨#[99, 111, 117, 110, 116]⟩, .string ⟨#[]⟩, I 0, I 2, .string ⟨#[]⟩, .bool false, .bool false, .slice none 0 0, .string
 ⟨#[98, 101, 97]⟩, .string ⟨#[100, 117, 107, 101]⟩, .string ⟨#[]⟩, I 1700, I 0, .string ⟨#[]⟩, .bool false, .bool false, .slice none 0 0, .string ⟨#[99, 121, 114]⟩, .string ⟨#[100, 117, 107, 101]⟩, .string ⟨#[]⟩, I 1650,
 I 0, .string ⟨#[]⟩, .bool false, .bool false, .slice none 0 0, .string ⟨#[100, 97, 110]⟩, .string ⟨#[]⟩, .string ⟨#[]⟩, I 0, I 1, .string ⟨#[]⟩, .bool false, .bool false, .slice none 0 0, .string ⟨#[101, 118, 97]⟩,
 .string ⟨#[99, 111, 117, 110, 116]⟩, .string ⟨#[]⟩, I 0, I 1, .string ⟨#[]⟩, .bool false, .bool false, .slice none 0 0] 25 9 none false)) T.leaf)).node none ((((T.leaf.node none (T.leaf.node (some (ABk.cells [I 2, I 1, I
 4, I 0, I 3] 3 1 (some 96) false)) T.leaf)).node none T.leaf).node (some (ABk.cells [.string ⟨#[100, 117, 107, 101]⟩, .string ⟨#[99, 111, 117, 110, 116]⟩] 9 1 none false)) T.leaf).node none T.leaf)).node (some (ABk.cells
 [.string ⟨#[]⟩, I 0, I 0, .bool false, .bool false, .bool false, .string ⟨#[114, 97, 110, 107]⟩, I 0, I 0, .bool false, .bool true, .bool true, .string ⟨#[101, 108, 100, 101, 114]⟩, I 0, I 0, .bool false, .bool false,
 .bool false, .string ⟨#[121, 111, 117, 116, 104]⟩, I 0, I 0, .bool false, .bool false, .bool false, .string ⟨#[115, 105, 100, 101]⟩, I 1, I 2, .bool true, .bool false, .bool false, .string ⟨#[104, 111, 115, 116]⟩, I 0, I
 0, .bool true, .bool false, .bool false, .string ⟨#[116, 111, 110, 103, 117, 101]⟩, I 0, I 0, .bool true, .bool true, .bool false, .string ⟨#[99, 111, 117, 114, 116]⟩, I 0, I 0, .bool true, .bool true, .bool false,
 .string ⟨#[110, 97, 109, 101]⟩, I 0, I 0, .bool false, .bool false, .bool false, .string ⟨#[108, 105, 115, 116]⟩, I 0, I 0, .bool false, .bool false, .bool false, .string ⟨#[108, 111, 116]⟩, I 0, I 63, .bool false, .bool
 false, .bool false] 138 0 none true)) (((((T.leaf.node none (T.leaf.node (some (ABk.cells [I 2, I 1, I 4, I 0] 3 1 (some 97) false)) T.leaf)).node none (T.leaf.node none (T.leaf.node none (T.leaf.node (some (ABk.cells [U
 1, .string ⟨#[]⟩, .bool false, .slice (some ⟨231, 0, none⟩) 2 18446744073709551616, I 0, U 2, .string ⟨#[100, 117, 107, 101]⟩, .bool false, .slice none 0 0, I 0, U 4, .string ⟨#[]⟩, .bool false, .slice none 0 0, I 1] 57
 5 (some 243) false)) T.leaf)))).node none (T.leaf.node none (((T.leaf.node (some (ABk.cells [I 2, I 1, I 0, I 3, I 2] 3 1 none false)) T.leaf).node none T.leaf).node none T.leaf))).node (some (ABk.cells [.int .u64
 (Int.ofNat 1), .int .u64 (Int.ofNat 10), .int .u64 (Int.ofNat 100), .int .u64 (Int.ofNat 1000), .int .u64 (Int.ofNat 10000), .int .u64 (Int.ofNat 100000), .int .u64 (Int.ofNat 1000000), .int .u64 (Int.ofNat 10000000),
 .int .u64 (Int.ofNat 100000000), .int .u64 (Int.ofNat 1000000000), .int .u64 (Int.ofNat 10000000000), .int .u64 (Int.ofNat 100000000000), .int .u64 (Int.ofNat 1000000000000), .int .u64 (Int.ofNat 10000000000000), .int
 .u64 (Int.ofNat 100000000000000), .int .u64 (Int.ofNat 1000000000000000), .int .u64 (Int.ofNat 10000000000000000), .int .u64 (Int.ofNat 100000000000000000), .int .u64 (Int.ofNat 1000000000000000000), .int .u64 (Int.ofNat
 10000000000000000000)] 213 0 none true)) ((T.leaf.node none (((T.leaf.node (some (ABk.cells [I 0, I 1] 3 1 (some 150) false)) T.leaf).node none T.leaf).node none T.leaf)).node none T.leaf)).node none ((((T.leaf.node none
 (T.leaf.node (some (ABk.cells [I 2, I 1, I 4, I 0, I 3] 3 1 none false)) T.leaf)).node none T.leaf).node (some (ABk.cells [U 1, .string ⟨#[]⟩, .bool false, .slice (some ⟨9, 0, none⟩) 2 2, I 0, U 2, .string ⟨#[100, 117,
 107, 101]⟩, .bool false, .slice none 0 0, I 0, U 4, .string ⟨#[]⟩, .bool false, .slice none 0 0, I 1, U 8, .string ⟨#[]⟩, .bool false, .slice none 0 0, I 0] 57 5 none false)) T.leaf).node none ((T.leaf.node none
 (((T.leaf.node (some (ABk.cells [I 0, I 1, I 2] 3 1 (some 148) false)) T.leaf).node none T.leaf).node none T.leaf)).node none (T.leaf.node none ((T.leaf.node none (T.leaf.node (some (ABk.cells [I 2, I 1, I 0, I 3, I 2] 3
 1 none false)) T.leaf)).node none T.leaf))))), 244, 9⟩)
noncomputable def s8 : AFrame × AHeap :=
 (⟨105, ((((((T.leaf.node (some (.slice (some ⟨150, 0, none⟩) 3 18446744073709551616)) T.leaf).node (some (.slice (some ⟨11, 0, none⟩) 5 5)) (T.leaf.node (some (.slice (some ⟨10, 5, none⟩) 3 3)) T.leaf)).node (some
 (.slice (some ⟨11, 0, none⟩) 5 5)) ((T.leaf.node (some (.slice (some ⟨243, 0, none⟩) 4 18446744073709551616)) T.leaf).node (some (.bool false)) T.leaf)).node (some (I 2)) (((T.leaf.node (some (.slice (some ⟨11, 0, none⟩)
 5 5)) T.leaf).node (some (I 1)) (T.leaf.node (some (.bool true)) T.leaf)).node (some (.slice (some ⟨10, 0, none⟩) 4 4)) ((T.leaf.node (some (.bool true)) T.leaf).node (some (.bool false)) T.leaf))).node (some (.slice
 (some ⟨97, 0, none⟩) 5 18446744073709551616)) ((((T.leaf.node (some (.bool false)) T.leaf).node (some (.pointer (some ⟨11, 36, none⟩))) (T.leaf.node (some (.bool true)) T.leaf)).node (some (.tuple { toList := [.slice
 (some ⟨97, 0, none⟩) 5 18446744073709551616, I 0] })) ((T.leaf.node (some (.bool true)) T.leaf).node (some (.bool false)) T.leaf)).node (some (I 0)) (((T.leaf.node (some (.bool false)) T.leaf).node (some (.slice (some
 ⟨97, 0, none⟩) 5 18446744073709551616)) T.leaf).node (some (.slice none 0 0)) ((T.leaf.node (some (.bool true)) T.leaf).node (some (.bool false)) T.leaf)))).node (some (.slice (some ⟨10, 0, none⟩) 4 4)) (((((T.leaf.node
 (some (.bool true)) T.leaf).node (some (.agg { toList := [.string ⟨#[97, 100, 97]⟩, .string ⟨#[99, 111, 117, 110, 116]⟩, .string ⟨#[]⟩, I 0, I 2, .string ⟨#[]⟩, .bool false, .bool false, .slice none 0 0] })) (T.leaf.node
 (some (.bool true)) T.leaf)).node (some (.slice (some ⟨10, 0, none⟩) 4 4)) ((T.leaf.node (some (I 0)) T.leaf).node (some (I 32)) T.leaf)).node (some (.slice (some ⟨243, 0, none⟩) 4 18446744073709551616)) (((T.leaf.node
 (some (.slice (some ⟨222, 0, none⟩) 5 5)) T.leaf).node (some (.bool false)) T.leaf).node (some (.slice (some ⟨11, 0, none⟩) 5 5)) ((T.leaf.node (some (.slice (some ⟨243, 0, none⟩) 4 18446744073709551616)) T.leaf).node
 (some (I 1)) T.leaf))).node (some (.slice none 0 0)) ((((T.leaf.node (some (.slice (some ⟨10, 0, none⟩) 4 4)) T.leaf).node (some (.tuple { toList := [I 2, I 1] })) (T.leaf.node (some (.slice (some ⟨245, 0, none⟩) 5 5))
 T.leaf)).node (some (I 0)) ((T.leaf.node (some (I 0)) T.leaf).node (some (I 2)) T.leaf)).node (some (.tuple { toList := [.slice (some ⟨10, 0, none⟩) 4 4, .slice (some ⟨11, 0, none⟩) 5 5] })) (((T.leaf.node (some (.tuple
 { toList := [.slice (some ⟨243, 0, none⟩) 4 18446744073709551616, I 0, I 0] })) T.leaf).node (some (.bool true)) T.leaf).node (some (.tuple { toList := [I 2, I 1] })) ((T.leaf.node (some (.bool true)) T.leaf).node (some
 (.slice (some ⟨10, 0, none⟩) 4 4)) T.leaf))))).node (some (.bool true)) ((((((T.leaf.node (some (.slice (some ⟨151, 0, none⟩) 3 3)) T.leaf).node (some (.pointer (some ⟨11, 0, none⟩))) (T.leaf.node (some (.string ⟨#[]⟩))
 T.leaf)).node (some (.tuple { toList := [.slice (some ⟨97, 0, none⟩) 5 18446744073709551616, I 0] })) ((T.leaf.node (some (I 0)) T.leaf).node (some (.bool false)) T.leaf)).node (some (I 1)) (((T.leaf.node (some (.slice
 (some ⟨152, 0, none⟩) 5 5)) T.leaf).node (some (I 0)) (T.leaf.node (some (.bool true)) T.leaf)).node (some (.slice (some ⟨10, 0, none⟩) 2 4)) ((T.leaf.node (some (.bool true)) T.leaf).node (some (.bool false))
 T.leaf))).node (some (I 0)) ((((T.leaf.node (some (.bool false)) T.leaf).node (some (.agg { toList := [.string ⟨#[101, 118, 97]⟩, .string ⟨#[99, 111, 117, 110, 116]⟩, .string ⟨#[]⟩, I 0, I 1, .string ⟨#[]⟩, .bool false,
 .bool false, .slice none 0 0] })) (T.leaf.node (some (.slice (some ⟨244, 0, none⟩) 5 5)) T.leaf)).node (some (.slice (some ⟨97, 0, none⟩) 5 18446744073709551616)) ((T.leaf.node (some (.bool true)) T.leaf).node (some
 (.bool false)) T.leaf)).node (some (.tuple { toList := [.slice (some ⟨10, 0, none⟩) 4 4, .slice (some ⟨11, 0, none⟩) 5 5] })) (((T.leaf.node (some (.bool false)) T.leaf).node (some (.slice (some ⟨98, 0, none⟩) 5 5))
 T.leaf).node (some (I 32)) ((T.leaf.node (some (.bool true)) T.leaf).node (some (.bool false)) T.leaf)))).node (some (.slice (some ⟨11, 0, none⟩) 5 5)) (((((T.leaf.node (some (.bool false)) T.leaf).node (some (.slice
 (some ⟨11, 0, none⟩) 5 5)) (T.leaf.node (some (.bool true)) T.leaf)).node (some (.slice (some ⟨11, 0, none⟩) 5 5)) ((T.leaf.node (some (I 0)) T.leaf).node (some (.bool false)) T.leaf)).node (some (I 0)) (((T.leaf.node
 (some (.bool true)) T.leaf).node (some (.bool false)) T.leaf).node (some (.tuple { toList := [.slice none 0 0, I 32] })) ((T.leaf.node (some (.slice (some ⟨10, 0, none⟩) 4 4)) T.leaf).node (some (.bool false))
 T.leaf))).node (some (I 32)) ((((T.leaf.node (some (.slice (some ⟨10, 0, none⟩) 2 4)) T.leaf).node (some (I 2)) (T.leaf.node (some (I 4)) T.leaf)).node (some (.tuple { toList := [.slice none 0 0, I 32] })) ((T.leaf.node
 (some (.bool true)) T.leaf).node (some (.bool false)) T.leaf)).node (some (.slice (some ⟨10, 0, none⟩) 4 4)) (((T.leaf.node (some (.tuple { toList := [.slice (some ⟨243, 0, none⟩) 4 18446744073709551616, I 0, I 0] }))
 T.leaf).node (some (.bool false)) T.leaf).node (some (.slice (some ⟨10, 0, none⟩) 4 4)) ((T.leaf.node (some (.slice (some ⟨10, 0, none⟩) 4 4)) T.leaf).node (some (.slice (some ⟨11, 0, none⟩) 5 5)) T.leaf))))), []⟩,
 ⟨(((T.leaf.node none ((T.leaf.node none (T.leaf.node none (T.leaf.node (some (ABk.cells [.string ⟨#[100, 117, 107, 101]⟩, .string ⟨#[99, 111, 117, 110, 116]⟩] 9 1 none false)) T.leaf))).node none (((T.leaf.node (some
 (ABk.cells [I 0, I 1, I 2] 3 1 none false)) T.leaf).node none T.leaf).node none T.leaf))).node none ((T.leaf.node none (T.leaf.node none (T.leaf.node none (T.leaf.node (some (ABk.cells [U 1, .string ⟨#[]⟩, .bool false,
 .slice (some ⟨231, 0, none⟩) 2 18446744073709551616, I 0, U 2, .string ⟨#[100, 117, 107, 101]⟩, .bool false, .slice none 0 0, I 0, U 4, .string ⟨#[]⟩, .bool false, .slice none 0 0, I 1, U 8, .string ⟨#[]⟩, .bool false,
 .slice none 0 0, I 0] 57 5 (some 240) false)) T.leaf)))).node (some (ABk.cells [.string ⟨#[97, 100, 97]⟩, .string ⟨#[99, 111, 117, 110, 116]⟩, .string ⟨#[]⟩, I 0, I 2, .string ⟨#[]⟩, .bool false, .bool false, .slice none
 0 0, .string ⟨#[98, 101, 97]⟩, .string ⟨#[100, 117, 107, 101]⟩, .string ⟨#[]⟩, I 1700, I 0, .string ⟨#[]⟩, .bool false, .bool false, .slice none 0 0, .string ⟨#[99, 121, 114]⟩, .string ⟨#[100, 117, 107, 101]⟩, .string
 ⟨#[]⟩, I 1650, I 0, .string ⟨#[]⟩, .bool false, .bool false, .slice none 0 0, .string ⟨#[100, 97, 110]⟩, .string ⟨#[]⟩, .string ⟨#[]⟩, I 0, I 1, .string ⟨#[]⟩, .bool false, .bool false, .slice none 0 0, .string ⟨#[101,
 118, 97]⟩, .string ⟨#[99, 111, 117, 110, 116]⟩, .string ⟨#[]⟩, I 0, I 1, .string ⟨#[]⟩, .bool false, .bool false, .slice none 0 0] 25 9 none false)) T.leaf)).node none ((((T.leaf.node none (T.leaf.node (some (ABk.cells
 [I 2, I 1, I 4, I 0, I 3] 3 1 (some 96) false)) T.leaf)).node none T.leaf).node (some (ABk.cells [.string ⟨#[100, 117, 107, 101]⟩, .string ⟨#[99, 111, 117, 110, 116]⟩] 9 1 none false)) T.leaf).node none ((T.leaf.node
 none (T.leaf.node none (T.leaf.node none (T.leaf.node (some (ABk.cells [I 0, I 1, I 2, I 3, I 4] 3 1 none false)) T.leaf)))).node none T.leaf))).node (some (ABk.cells [.string ⟨#[]⟩, I 0, I 0, .bool false, .bool false,
 .bool false, .string ⟨#[114, 97, 110, 107]⟩, I 0, I 0, .bool false, .bool true, .bool true, .string ⟨#[101, 108, 100, 101, 114]⟩, I 0, I 0, .bool false, .bool false, .bool false, .string ⟨#[121, 111, 117, 116, 104]⟩, I
 0, I 0, .bool false, .bool false, .bool false, .string ⟨#[115, 105, 100, 101]⟩, I 1, I 2, .bool true, .bool false, .bool false, .string ⟨#[104, 111, 115, 116]⟩, I 0, I 0, .bool true, .bool false, .bool false, .string
 ⟨#[116, 111, 110, 103, 117, 101]⟩, I 0, I 0, .bool true, .bool true, .bool false, .string ⟨#[99, 111, 117, 114, 116]⟩, I 0, I 0, .bool true, .bool true, .bool false, .string ⟨#[110, 97, 109, 101]⟩, I 0, I 0, .bool false,
 .bool false, .bool false, .string ⟨#[108, 105, 115, 116]⟩, I 0, I 0, .bool false, .bool false, .bool false, .string ⟨#[108, 111, 116]⟩, I 0, I 63, .bool false, .bool false, .bool false] 138 0 none true)) (((((T.leaf.node
 none (T.leaf.node (some (ABk.cells [I 2, I 1, I 4, I 0] 3 1 (some 97) false)) T.leaf)).node none (T.leaf.node none (T.leaf.node none (T.leaf.node (some (ABk.cells [U 1, .string ⟨#[]⟩, .bool false, .slice (some ⟨231, 0,
 none⟩) 2 18446744073709551616, I 0, U 2, .string ⟨#[100, 117, 107, 101]⟩, .bool false, .slice none 0 0, I 0, U 4, .string ⟨#[]⟩, .bool false, .slice none 0 0, I 1] 57 5 (some 243) false)) T.leaf)))).node none
 (T.leaf.node none (((T.leaf.node (some (ABk.cells [I 2, I 1, I 0, I 3, I 2] 3 1 none false)) T.leaf).node none T.leaf).node none T.leaf))).node (some (ABk.cells [.int .u64 (Int.ofNat 1), .int .u64 (Int.ofNat 10), .int
 .u64 (Int.ofNat 100), .int .u64 (Int.ofNat 1000), .int .u64 (Int.ofNat 10000), .int .u64 (Int.ofNat 100000), .int .u64 (Int.ofNat 1000000), .int .u64 (Int.ofNat 10000000), .int .u64 (Int.ofNat 100000000), .int .u64
 (Int.ofNat 1000000000), .int .u64 (Int.ofNat 10000000000), .int .u64 (Int.ofNat 100000000000), .int .u64 (Int.ofNat 1000000000000), .int .u64 (Int.ofNat 10000000000000), .int .u64 (Int.ofNat 100000000000000), .int .u64
 (Int.ofNat 1000000000000000), .int .u64 (Int.ofNat 10000000000000000), .int .u64 (Int.ofNat 100000000000000000), .int .u64 (Int.ofNat 1000000000000000000), .int .u64 (Int.ofNat 10000000000000000000)] 213 0 none true))
 ((T.leaf.node none (((T.leaf.node (some (ABk.cells [I 0, I 1] 3 1 (some 150) false)) T.leaf).node none T.leaf).node none (T.leaf.node none (T.leaf.node (some (ABk.cells [I 2, I 1, I 0, I 3, I 2] 3 1 none false))
 T.leaf)))).node none T.leaf)).node none ((((T.leaf.node none (T.leaf.node (some (ABk.cells [I 2, I 1, I 4, I 0, I 3] 3 1 none false)) T.leaf)).node none T.leaf).node (some (ABk.cells [U 1, .string ⟨#[]⟩, .bool false,
 .slice (some ⟨9, 0, none⟩) 2 2, I 0, U 2, .string ⟨#[100, 117, 107, 101]⟩, .bool false, .slice none 0 0, I 0, U 4, .string ⟨#[]⟩, .bool false, .slice none 0 0, I 1, U 8, .string ⟨#[]⟩, .bool false, .slice none 0 0, I 0]
 57 5 none false)) T.leaf).node none ((T.leaf.node none (((T.leaf.node (some (ABk.cells [I 0, I 1, I 2] 3 1 (some 148) false)) T.leaf).node none T.leaf).node none T.leaf)).node none (T.leaf.node none ((T.leaf.node none
 (T.leaf.node (some (ABk.cells [I 2, I 1, I 0, I 3, I 2] 3 1 none false)) T.leaf)).node none T.leaf))))), 246, 9⟩)
end Go.Ev

end

section
open Go.Proofs
namespace Go.Ev
def GB : Nat := 13803492693581127574869511724554050904902217944340773110325048447598591
noncomputable def GA : Msk := { bits := GB, fast := true, ora := fun _ => none }
noncomputable def OUT : Run := ev Tryz.prog GA 99
theorem fn9_some : (Tryz.prog.funcs[10]?).isSome = true := by kernel_rfl
noncomputable def fn9 : Func := (Tryz.prog.funcs[10]?).get fn9_some
noncomputable def body9 : Code := match fn9.body with | some b => b | none => .skip
noncomputable def hdC : Code → Code | .seq a _ => a | c => c
noncomputable def tlC : Code → Code | .seq _ b => b | _ => .skip
noncomputable def F0 : AFrame := frameOf 105 ⟨[]⟩
noncomputable def h0 : AHeap := { GH with wlow := GH.next }
noncomputable def b1 : Code := tlC body9
noncomputable def b2 : Code := tlC b1
noncomputable def b3 : Code := tlC b2
noncomputable def b4 : Code := tlC b3
noncomputable def b5 : Code := tlC b4
noncomputable def b6 : Code := tlC b5
noncomputable def b7 : Code := tlC b6
noncomputable def b8 : Code := tlC b7
theorem d0 : body9 = .seq (hdC body9) b1 := by kernel_rfl
theorem d1 : b1 = .seq (hdC b1) b2 := by kernel_rfl
theorem d2 : b2 = .seq (hdC b2) b3 := by kernel_rfl
theorem d3 : b3 = .seq (hdC b3) b4 := by kernel_rfl
theorem d4 : b4 = .seq (hdC b4) b5 := by kernel_rfl
theorem d5 : b5 = .seq (hdC b5) b6 := by kernel_rfl
theorem d6 : b6 = .seq (hdC b6) b7 := by kernel_rfl
theorem d7 : b7 = .seq (hdC b7) b8 := by kernel_rfl
theorem a0 : evIn Tryz.prog GA OUT 999999999999999 none (hdC body9) F0 h0 = some (.normal, s0.1, s0.2) := by kernel_rfl
theorem a1 : evIn Tryz.prog GA OUT 999999999999998 none (hdC b1) s0.1 s0.2 = some (.normal, s1.1, s1.2) := by kernel_rfl
theorem a2 : evIn Tryz.prog GA OUT 999999999999997 none (hdC b2) s1.1 s1.2 = some (.normal, s2.1, s2.2) := by kernel_rfl
theorem a3 : evIn Tryz.prog GA OUT 999999999999996 none (hdC b3) s2.1 s2.2 = some (.normal, s3.1, s3.2) := by kernel_rfl
theorem a4 : evIn Tryz.prog GA OUT 999999999999995 none (hdC b4) s3.1 s3.2 = some (.normal, s4.1, s4.2) := by kernel_rfl
end Go.Ev

end

section
open Go.Proofs
namespace Go.Ev
theorem a5 : evIn Tryz.prog GA OUT 999999999999994 none (hdC b5) s4.1 s4.2 = some (.normal, s5.1, s5.2) := by kernel_rfl
theorem a6 : evIn Tryz.prog GA OUT 999999999999993 none (hdC b6) s5.1 s5.2 = some (.normal, s7.1, s7.2) := by kernel_rfl
theorem a7 : evIn Tryz.prog GA OUT 999999999999992 none (hdC b7) s7.1 s7.2 = some (.normal, s8.1, s8.2) := by kernel_rfl
theorem a8 : evIn Tryz.prog GA OUT 999999999999992 none b8 s8.1 s8.2 = some (.ret, s8.1, s8.2) := by kernel_rfl
end Go.Ev

end
