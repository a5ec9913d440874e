import Derived.Test.YtkdepeadledpnaaGrNew
namespace Go.Proofs.Ytkdepeadledpnaa.Gr
open Go.RowKit Go.Proofs.Ytkdepeadledpnaa.Sp Go.Proofs.Ytkdepeadledpnaa.Lx Go.Maps

def tx1 : ByteArray := ⟨#[112, 111, 108, 105, 99, 121, 32, 112, 32, 123, 32, 114, 101, 113, 117, 105, 114, 101, 32, 49, 32, 45, 32, 50, 32, 45, 32, 51, 32, 60, 32, 45, 52, 59, 32, 125]⟩
def tk1 : List Tok := [⟨5, 0, 6, 0⟩, ⟨2, 7, 8, 0⟩, ⟨4, 9, 10, 0⟩, ⟨5, 11, 18, 0⟩, ⟨3, 19, 20, 1⟩, ⟨4, 21, 22, 0⟩, ⟨3, 23, 24, 2⟩, ⟨4, 25, 26, 0⟩, ⟨3, 27, 28, 3⟩, ⟨4, 29, 30, 0⟩, ⟨4, 31, 32, 0⟩, ⟨3, 32, 33, 4⟩, ⟨4, 33, 34, 0⟩, ⟨4, 35, 36, 0⟩, ⟨0, 36, 36, 0⟩]
set_option maxRecDepth 100000 in
theorem full1 : full tx1 = .ok tk1 := by
  rw [full_short (by decide)]
  have r0 : ru isW tx1 0 = 6 := by decide +kernel
  have h0 := sc_kept (s := tx1) (i := 0) (k := 0) (a := 0) (by decide) (by decide +kernel) (by decide) (by decide) (by decide +kernel) (by rw [r0]; decide +kernel)
  rw [r0] at h0
  have r1 : ru isW tx1 7 = 8 := by decide +kernel
  have h1 := sc_named (s := tx1) (i := 6) (k := 1) (a := 7) (by decide) (by decide +kernel) (by decide) (by decide) (by decide +kernel) (by rw [r1]; decide +kernel) (by rw [r1]; decide)
  rw [r1] at h1
  have h2 := sc_one (s := tx1) (i := 8) (k := 2) (a := 9) (by decide) (by decide +kernel) (by decide) (by decide) (by decide +kernel) (by decide +kernel) (by decide +kernel) (by decide +kernel)
  have r3 : ru isW tx1 11 = 18 := by decide +kernel
  have h3 := sc_kept (s := tx1) (i := 10) (k := 3) (a := 11) (by decide) (by decide +kernel) (by decide) (by decide) (by decide +kernel) (by rw [r3]; decide +kernel)
  rw [r3] at h3
  have r4 : ru isD tx1 19 = 20 := by decide +kernel
  have h4 := sc_num (s := tx1) (i := 18) (k := 4) (a := 19) (by decide) (by decide +kernel) (by decide) (by decide) (by decide +kernel) (by decide +kernel) (by rw [r4]; decide +kernel)
  rw [r4] at h4
  have v4 : val 0 (tx (tx1.extract 19 20)) = 1 := by decide +kernel
  rw [v4] at h4
  have h5 := sc_one (s := tx1) (i := 20) (k := 5) (a := 21) (by decide) (by decide +kernel) (by decide) (by decide) (by decide +kernel) (by decide +kernel) (by decide +kernel) (by decide +kernel)
  have r6 : ru isD tx1 23 = 24 := by decide +kernel
  have h6 := sc_num (s := tx1) (i := 22) (k := 6) (a := 23) (by decide) (by decide +kernel) (by decide) (by decide) (by decide +kernel) (by decide +kernel) (by rw [r6]; decide +kernel)
  rw [r6] at h6
  have v6 : val 0 (tx (tx1.extract 23 24)) = 2 := by decide +kernel
  rw [v6] at h6
  have h7 := sc_one (s := tx1) (i := 24) (k := 7) (a := 25) (by decide) (by decide +kernel) (by decide) (by decide) (by decide +kernel) (by decide +kernel) (by decide +kernel) (by decide +kernel)
  have r8 : ru isD tx1 27 = 28 := by decide +kernel
  have h8 := sc_num (s := tx1) (i := 26) (k := 8) (a := 27) (by decide) (by decide +kernel) (by decide) (by decide) (by decide +kernel) (by decide +kernel) (by rw [r8]; decide +kernel)
  rw [r8] at h8
  have v8 : val 0 (tx (tx1.extract 27 28)) = 3 := by decide +kernel
  rw [v8] at h8
  have h9 := sc_one (s := tx1) (i := 28) (k := 9) (a := 29) (by decide) (by decide +kernel) (by decide) (by decide) (by decide +kernel) (by decide +kernel) (by decide +kernel) (by decide +kernel)
  have h10 := sc_one (s := tx1) (i := 30) (k := 10) (a := 31) (by decide) (by decide +kernel) (by decide) (by decide) (by decide +kernel) (by decide +kernel) (by decide +kernel) (by decide +kernel)
  have r11 : ru isD tx1 32 = 33 := by decide +kernel
  have h11 := sc_num (s := tx1) (i := 32) (k := 11) (a := 32) (by decide) (by decide +kernel) (by decide) (by decide) (by decide +kernel) (by decide +kernel) (by rw [r11]; decide +kernel)
  rw [r11] at h11
  have v11 : val 0 (tx (tx1.extract 32 33)) = 4 := by decide +kernel
  rw [v11] at h11
  have h12 := sc_one (s := tx1) (i := 33) (k := 12) (a := 33) (by decide) (by decide +kernel) (by decide) (by decide) (by decide +kernel) (by decide +kernel) (by decide +kernel) (by decide +kernel)
  have h13 := sc_one (s := tx1) (i := 34) (k := 13) (a := 35) (by decide) (by decide +kernel) (by decide) (by decide) (by decide +kernel) (by decide +kernel) (by decide +kernel) (by decide +kernel)
  have h14 := sc_end (s := tx1) (i := 36) (k := 14) (by decide) (by decide +kernel)
  rw [h0, h1, h2, h3, h4, h5, h6, h7, h8, h9, h10, h11, h12, h13, h14]
  rfl
def tx2 : ByteArray := ⟨#[112, 111, 108, 105, 99, 121, 32, 112, 32, 123, 32, 114, 101, 113, 117, 105, 114, 101, 32, 49, 32, 60, 32, 50, 32, 60, 32, 51, 59, 32, 125]⟩
def tk2 : List Tok := [⟨5, 0, 6, 0⟩, ⟨2, 7, 8, 0⟩, ⟨4, 9, 10, 0⟩, ⟨5, 11, 18, 0⟩, ⟨3, 19, 20, 1⟩, ⟨4, 21, 22, 0⟩, ⟨3, 23, 24, 2⟩, ⟨4, 25, 26, 0⟩, ⟨3, 27, 28, 3⟩, ⟨4, 28, 29, 0⟩, ⟨4, 30, 31, 0⟩, ⟨0, 31, 31, 0⟩]
set_option maxRecDepth 100000 in
theorem full2 : full tx2 = .ok tk2 := by
  rw [full_short (by decide)]
  have r0 : ru isW tx2 0 = 6 := by decide +kernel
  have h0 := sc_kept (s := tx2) (i := 0) (k := 0) (a := 0) (by decide) (by decide +kernel) (by decide) (by decide) (by decide +kernel) (by rw [r0]; decide +kernel)
  rw [r0] at h0
  have r1 : ru isW tx2 7 = 8 := by decide +kernel
  have h1 := sc_named (s := tx2) (i := 6) (k := 1) (a := 7) (by decide) (by decide +kernel) (by decide) (by decide) (by decide +kernel) (by rw [r1]; decide +kernel) (by rw [r1]; decide)
  rw [r1] at h1
  have h2 := sc_one (s := tx2) (i := 8) (k := 2) (a := 9) (by decide) (by decide +kernel) (by decide) (by decide) (by decide +kernel) (by decide +kernel) (by decide +kernel) (by decide +kernel)
  have r3 : ru isW tx2 11 = 18 := by decide +kernel
  have h3 := sc_kept (s := tx2) (i := 10) (k := 3) (a := 11) (by decide) (by decide +kernel) (by decide) (by decide) (by decide +kernel) (by rw [r3]; decide +kernel)
  rw [r3] at h3
  have r4 : ru isD tx2 19 = 20 := by decide +kernel
  have h4 := sc_num (s := tx2) (i := 18) (k := 4) (a := 19) (by decide) (by decide +kernel) (by decide) (by decide) (by decide +kernel) (by decide +kernel) (by rw [r4]; decide +kernel)
  rw [r4] at h4
  have v4 : val 0 (tx (tx2.extract 19 20)) = 1 := by decide +kernel
  rw [v4] at h4
  have h5 := sc_one (s := tx2) (i := 20) (k := 5) (a := 21) (by decide) (by decide +kernel) (by decide) (by decide) (by decide +kernel) (by decide +kernel) (by decide +kernel) (by decide +kernel)
  have r6 : ru isD tx2 23 = 24 := by decide +kernel
  have h6 := sc_num (s := tx2) (i := 22) (k := 6) (a := 23) (by decide) (by decide +kernel) (by decide) (by decide) (by decide +kernel) (by decide +kernel) (by rw [r6]; decide +kernel)
  rw [r6] at h6
  have v6 : val 0 (tx (tx2.extract 23 24)) = 2 := by decide +kernel
  rw [v6] at h6
  have h7 := sc_one (s := tx2) (i := 24) (k := 7) (a := 25) (by decide) (by decide +kernel) (by decide) (by decide) (by decide +kernel) (by decide +kernel) (by decide +kernel) (by decide +kernel)
  have r8 : ru isD tx2 27 = 28 := by decide +kernel
  have h8 := sc_num (s := tx2) (i := 26) (k := 8) (a := 27) (by decide) (by decide +kernel) (by decide) (by decide) (by decide +kernel) (by decide +kernel) (by rw [r8]; decide +kernel)
  rw [r8] at h8
  have v8 : val 0 (tx (tx2.extract 27 28)) = 3 := by decide +kernel
  rw [v8] at h8
  have h9 := sc_one (s := tx2) (i := 28) (k := 9) (a := 28) (by decide) (by decide +kernel) (by decide) (by decide) (by decide +kernel) (by decide +kernel) (by decide +kernel) (by decide +kernel)
  have h10 := sc_one (s := tx2) (i := 29) (k := 10) (a := 30) (by decide) (by decide +kernel) (by decide) (by decide) (by decide +kernel) (by decide +kernel) (by decide +kernel) (by decide +kernel)
  have h11 := sc_end (s := tx2) (i := 31) (k := 11) (by decide) (by decide +kernel)
  rw [h0, h1, h2, h3, h4, h5, h6, h7, h8, h9, h10, h11]
  rfl
def rw1 : List Rw := [⟨1, ⟨#[112]⟩, 0, 0, 1⟩, ⟨6, ⟨#[]⟩, 0, 0, 1⟩, ⟨49, ⟨#[]⟩, 0, 0, 2⟩, ⟨46, ⟨#[]⟩, 0, 0, 2⟩, ⟨46, ⟨#[]⟩, 0, 0, 2⟩, ⟨27, ⟨#[]⟩, 0, 1, 0⟩, ⟨27, ⟨#[]⟩, 0, 2, 0⟩, ⟨27, ⟨#[]⟩, 0, 3, 0⟩, ⟨41, ⟨#[]⟩, 0, 0, 1⟩, ⟨27, ⟨#[]⟩, 0, 4, 0⟩]
def pl1 : List Nat := [0, 11, 29, 25, 21, 19, 23, 27, 31, 32]
set_option maxRecDepth 100000 in
theorem pol1 (g : Nat) (w0 : World) (ta : Option Addr) (tcap : Nat) (to : Option Addr) (toc m0 m1 m2 m3 m4 m5 : Nat) : policy ⟨g, w0, tx1, ta, tcap, tk1, to, toc, 0, 0, m0, m1, m2, m3, m4, m5⟩ 6 ps0 = some (.ok () ⟨14, 0, rw1, pl1⟩) := by kernel_rfl
set_option maxRecDepth 100000 in
theorem pol2 (g : Nat) (w0 : World) (ta : Option Addr) (tcap : Nat) (to : Option Addr) (toc m0 m1 m2 m3 m4 m5 : Nat) : policy ⟨g, w0, tx2, ta, tcap, tk2, to, toc, 0, 0, m0, m1, m2, m3, m4, m5⟩ 6 ps0 = some (.die 21 25) := by kernel_rfl
end Go.Proofs.Ytkdepeadledpnaa.Gr
