/-
  The law that holds the program's totals of groups against the model's: proved by walking the law.
-/
import Derived.Test.YtopjoogdpjaocaaGreatTj46
import Derived.Test.YtopjoogdpjaocaaGreatTj48
set_option linter.unusedVariables false
set_option maxHeartbeats 6400000
set_option maxRecDepth 100000
namespace Go.Proofs.YtopjoogdpjaocaaGreat
open Go.RowKit
set_option maxRecDepth 100000 in
set_option maxHeartbeats 1600000 in
theorem exactTot (v:Value) (l:List Gc) (w:World) (hr:RdR Gc.vs 1 w v l) (hl:l.length ≤ 1048576) (hi:∀ c ∈ l,zaV w c.a c.len c.cap) :
  Calls Tryz.prog 3 #[v] w fun e w'=>e = .returned (.bool true)∧Below w.heap.size w w':=by
 have HR:=hide hr
 have HI:=hide hi
 obtain ⟨a,cap,rfl,_,_⟩:=hr
 clear hi
 go_enter Tryz.func3,Tryz.ntmps3
 go_wp2_with fail
 refine (szGs_any _ l _ (za HR) hl (za HI)).mono ?_
 rintro e w1 ⟨y,rfl,hy0,hb⟩
 have B1:=hide hb
 have HY:=hide hy0
 clear hb hy0
 by_cases hy:y < 0
 ·go_wp2_with fail
  go_ret
  exact ⟨rfl,za B1⟩
 obtain ⟨gs,hrg,hgl,hok⟩:=groups_rd (za HR) (za HI) (za HY (by omega))
 have HG:=hide hrg
 have HK:Hid (∀ g ∈ gs,∀ e ∈ g,e.cmd.g.size ≤ maxLen):=hide (fun g hg e he=>(hok g hg e he).c.g)
 have HS:=hide (fun v W h=>specTotalsOf_any v gs W h (za HK))
 have HM:=hide (fun v W h=>implTotalsOf_any v gs W h (za HK))
 have hy1:¬ (y < 0):=hy
 clear hrg hok HY HI HR HK
 generalize ttF gs = R at HS HM
 obtain ⟨T,cc⟩:=R
 unfold totV at HS HM
 simp only at HS HM
 go_wp2_with fail
 refine (toGs_any _ gs w1 (zav (za HG) (za B1) (Nat.le_refl _))).mono ?_
 rintro e w2 ⟨v1,rfl,ho,hb⟩
 have B2:=hide ((za B1).trans (hb.mono (za B1).size))
 have O1:=hide ho
 clear hb ho
 go_wp2_with fail
 refine (za HS v1 w2 (za O1)).mono ?_
 rintro e w3 ⟨rfl,hb⟩
 have B3:=hide ((za B2).trans (hb.mono (za B2).size))
 clear hb HS O1 B2 B1
 have BA:Hid (Below w.heap.size w (w3.alloc (Obj.cells #[.int .i64 T.gr,.int .i64 T.ac,.int .i64 T.rf,.int .i64 T.tr,.int .i64 T.vo,.int .i64 T.no,.int .i64 T.li,.int .i64 T.le] 25))):=(za B3).alloc (za B3).size _
 have HX0:Hid (Bx (w3.alloc (Obj.cells #[.int .i64 T.gr,.int .i64 T.ac,.int .i64 T.rf,.int .i64 T.tr,.int .i64 T.vo,.int .i64 T.no,.int .i64 T.li,.int .i64 T.le] 25)) w3.heap.size [.int .i64 T.gr,.int .i64 T.ac,.int .i64 T.rf,.int .i64 T.tr,.int .i64 T.vo,.int .i64 T.no,.int .i64 T.li,.int .i64 T.le]):=zaK w3 [.int .i64 T.gr,.int .i64 T.ac,.int .i64 T.rf,.int .i64 T.tr,.int .i64 T.vo,.int .i64 T.no,.int .i64 T.li,.int .i64 T.le] 25
 have HZ0:Hid (w3.heap.size < (w3.alloc (Obj.cells #[.int .i64 T.gr,.int .i64 T.ac,.int .i64 T.rf,.int .i64 T.tr,.int .i64 T.vo,.int .i64 T.no,.int .i64 T.li,.int .i64 T.le] 25)).heap.size):=by show _ < _; simp
 go_wp2_with fail
 generalize (w3.alloc (Obj.cells #[.int .i64 T.gr,.int .i64 T.ac,.int .i64 T.rf,.int .i64 T.tr,.int .i64 T.vo,.int .i64 T.no,.int .i64 T.li,.int .i64 T.le] 25)) = W4 at BA HX0 HZ0 ⊢
 generalize w3.heap.size = b4 at HX0 HZ0 ⊢
 clear B3
 refine (toGs_any _ gs W4 (zav (za HG) (za BA) (Nat.le_refl _))).mono ?_
 rintro e w5 ⟨v2,rfl,ho,hb⟩
 have B5:=hide ((za BA).trans (hb.mono (za BA).size))
 have HX5:=hide (zP (za HX0) hb (za HZ0))
 have HZ5:=hide (Nat.lt_of_lt_of_le (za HZ0) hb.size)
 have O5:=hide ho
 clear hb ho BA HX0 HZ0
 go_wp2_with fail
 refine (za HM v2 w5 (za O5)).mono ?_
 rintro e w6 ⟨rfl,hb⟩
 have B6:=hide ((za B5).trans (hb.mono (za B5).size))
 have HX6:=hide (zP (za HX5) hb (za HZ5))
 have HZ6:=hide (Nat.lt_of_lt_of_le (za HZ5) hb.size)
 have O6:=hide (zav (za O5) hb (Nat.le_refl _))
 clear hb HM B5 HX5 HZ5 O5
 have hal:Below w6.heap.size w6 (w6.alloc (Obj.cells #[.int .i64 T.gr,.int .i64 T.ac,.int .i64 T.rf,.int .i64 T.tr,.int .i64 T.vo,.int .i64 T.no,.int .i64 T.li,.int .i64 T.le] 25)):=(Below.refl _ _).alloc (Nat.le_refl _) _
 have B7:=hide ((za B6).trans (hal.mono (za B6).size))
 have HX7:=hide (zP (za HX6) hal (za HZ6))
 have HY7:Hid (Bx (w6.alloc (Obj.cells #[.int .i64 T.gr,.int .i64 T.ac,.int .i64 T.rf,.int .i64 T.tr,.int .i64 T.vo,.int .i64 T.no,.int .i64 T.li,.int .i64 T.le] 25)) w6.heap.size [.int .i64 T.gr,.int .i64 T.ac,.int .i64 T.rf,.int .i64 T.tr,.int .i64 T.vo,.int .i64 T.no,.int .i64 T.li,.int .i64 T.le]):=zaK w6 [.int .i64 T.gr,.int .i64 T.ac,.int .i64 T.rf,.int .i64 T.tr,.int .i64 T.vo,.int .i64 T.no,.int .i64 T.li,.int .i64 T.le] 25
 have O7:=hide (zav (za O6) hal (Nat.le_refl _))
 clear hal
 obtain ⟨x0,x1,x2,x3,x4,x5,x6,x7⟩:=t8c (za HX7)
 obtain ⟨y0,y1,y2,y3,y4,y5,y6,y7⟩:=t8c (za HY7)
 go_wp2_with fail
 generalize (w6.alloc (Obj.cells #[.int .i64 T.gr,.int .i64 T.ac,.int .i64 T.rf,.int .i64 T.tr,.int .i64 T.vo,.int .i64 T.no,.int .i64 T.li,.int .i64 T.le] 25)) = W7 at B7 O7 ⊢
 clear x0 x1 x2 x3 x4 x5 x6 x7 y0 y1 y2 y3 y4 y5 y6 y7 HX6 HX7 HY7 HZ6 O6 B6
 refine (eqTot_same T W7).mono ?_
 rintro e w8 ⟨rfl,hb⟩
 have B8:=hide ((za B7).trans (hb.mono (za B7).size))
 have O8:=hide (zav (za O7) hb (Nat.le_refl _))
 clear hb B7 O7
 go_wp2_with fail
 refine (toGs_any _ gs w8 (zav (za HG) (za B8) (Nat.le_refl _))).mono ?_
 rintro e w9 ⟨v3,rfl,ho,hb⟩
 have B9:=hide ((za B8).trans (hb.mono (za B8).size))
 have O9:=hide (zav (za O8) hb (Nat.le_refl _))
 have OA:=hide ho
 clear hb ho B8 O8
 go_wp2_with fail
 refine (eqGs_same _ _ gs w9 (za O9) (za OA)).mono ?_
 rintro e wA ⟨rfl,hb⟩
 have BA:=hide ((za B9).trans (hb.mono (za B9).size))
 clear hb
 go_wp2_with fail
 go_ret
 exact ⟨rfl,za BA⟩
theorem lawTot (a:Option Addr) (len cap:Nat) (w:World) (h:IsGroups w a len cap) :
  Calls Tryz.prog 3 #[.slice a len cap] w fun e w'=>e = .returned (.bool true)∧Below w.heap.size w w':=by
 by_cases hl:len ≤ 1048576
 ·obtain ⟨l,rfl,hr,hok⟩:=h.2 (by omega)
  exact exactTot _ l w hr hl hok
 ·have HZ:=hide (fun W=>szGs_far a len cap W (by omega) h.1)
  clear h
  go_enter Tryz.func3,Tryz.ntmps3
  go_wp2_with fail
  refine (za HZ _).mono ?_
  rintro e w1 ⟨rfl,rfl⟩
  go_wp2_with fail
  go_ret
  exact ⟨rfl,Below.refl _ _⟩
end Go.Proofs.YtopjoogdpjaocaaGreat
