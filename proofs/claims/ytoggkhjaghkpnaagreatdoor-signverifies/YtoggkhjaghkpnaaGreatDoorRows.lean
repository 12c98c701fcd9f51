/-
  NARROWER THAN 'FOR EVERY INPUT', by the rows' own cells (each row's printed sentence says how): SignSigns: laid · SignVerifies: laid.
  DERIVED. THE GIVEN ROWS OF THIS SEAT. 2 by the template 'for every input the law returns true; each argument reads behind the call as it read before'; 0 by the template 'total and deterministic' (their statements: YtoggkhjaghkpnaaGreatDoorTotals.lean).
  GIVEN WITH THE SEED: the statements are not yours to turn. If you find one false, say at which input.
  Laid BY PROGRAM, IN A SANDBOX (cutbox-rows.mjs): the forced cells as the released guide's own fill.sh prints them over the translation 42c454c18877908d… (all of the seat's roots in one cut). By AI agents, Wed Nov 11 2026. No macro, syntax, notation, axiom, sorry.
-/
import Derived.Test.YtoggkhjaghkpnaaGreatDoorChecked
import GoSem.Claim
import GoSem.ClaimJoined
import GoSem.ClaimMapViews
import Derived.JoinedTies
import Derived.KernelRfl
namespace Go.Proofs.YtoggkhjaghkpnaaGreatDoor
/- THE CELL 'sum', in the pinned program and in every row, IS THE sha256 OF THE DUMP (.gsa) THAT YtoggkhjaghkpnaaGreatDoorProg.lean LOADS. Nothing in Lean hashes anything: it is a label: what it is worth is what the hold of that sum in a sandbox is worth. -/
noncomputable def Tryz.pinned : Pinned := { name := "ytoggkhjaghkpnaagreatdoor", sum := "42c454c18877908da6c9e001295cb155017eb1a06f58065a35ad6116747209e1", checked := Tryz.checked }
namespace Rows
def none {H : Type} : Left H := { results := [], args := [] }

/- WHAT THE LISTED PACKAGE-LEVEL VARIABLES READ AS WHEN THE CALL BEGINS. Each datum BY PROGRAM (the guide's laid-datum.mjs) off the statement by which the dump's own 'gosem.cut.vars' lays the variable. In a bare row this is a premise. The card (YtoggkhjaghkpnaaGreatDoorCards.lean) ties it to the program's text. -/
def laid_fellowship_api_ErrRange {H : Type} : DataW H := .iface "*errors.errorString" (.ptr (.agg [.lit (.string [102, 101, 108, 108, 111, 119, 115, 104, 105, 112, 58, 32, 114, 97, 110, 103, 101])]))
def laid_fellowship_api_ErrLong {H : Type} : DataW H := .iface "*errors.errorString" (.ptr (.agg [.lit (.string [102, 101, 108, 108, 111, 119, 115, 104, 105, 112, 58, 32, 108, 111, 110, 103])]))
def laid_fellowship_api_ErrForm {H : Type} : DataW H := .iface "*errors.errorString" (.ptr (.agg [.lit (.string [102, 101, 108, 108, 111, 119, 115, 104, 105, 112, 58, 32, 102, 111, 114, 109])]))
def laid_fellowship_field_curve {H : Type} : DataW H := .agg [.lit (.int .u64 929955233495203), .lit (.int .u64 466365720129213), .lit (.int .u64 1662059464998953), .lit (.int .u64 2033849074728123), .lit (.int .u64 1442794654840575)]
def laid_fellowship_field_baseX {H : Type} : DataW H := .agg [.lit (.int .u64 1738742601995546), .lit (.int .u64 1146398526822698), .lit (.int .u64 2070867633025821), .lit (.int .u64 562264141797630), .lit (.int .u64 587772402128613)]
def laid_fellowship_field_baseY {H : Type} : DataW H := .agg [.lit (.int .u64 1801439850948184), .lit (.int .u64 1351079888211148), .lit (.int .u64 450359962737049), .lit (.int .u64 900719925474099), .lit (.int .u64 1801439850948198)]
def laid_fellowship_field_turn {H : Type} : DataW H := .agg [.lit (.int .u64 1718705420411056), .lit (.int .u64 234908883556509), .lit (.int .u64 2233514472574048), .lit (.int .u64 2117202627021982), .lit (.int .u64 765476049583133)]
def laid_fellowship_scalar_order {H : Type} : DataW H := .agg [.lit (.int .u64 1559614445), .lit (.int .u64 1477600026), .lit (.int .u64 2734136534), .lit (.int .u64 350157278), .lit (.int .u64 0), .lit (.int .u64 0), .lit (.int .u64 0), .lit (.int .u64 268435456)]
def laid_fellowship_scalar_tail {H : Type} : DataW H := .agg [.lit (.int .u64 1559614445), .lit (.int .u64 1477600026), .lit (.int .u64 2734136534), .lit (.int .u64 350157278), .lit (.int .u64 0), .lit (.int .u64 0), .lit (.int .u64 0), .lit (.int .u64 0)]
def laid_fellowship_shawide_start {H : Type} : DataW H := .agg [.lit (.int .u64 7640891576956012808), .lit (.int .u64 13503953896175478587), .lit (.int .u64 4354685564936845355), .lit (.int .u64 11912009170470909681), .lit (.int .u64 5840696475078001361), .lit (.int .u64 11170449401992604703), .lit (.int .u64 2270897969802886507), .lit (.int .u64 6620516959819538809)]
def laid_fellowship_shawide_rounds {H : Type} : DataW H := .agg [.lit (.int .u64 4794697086780616226), .lit (.int .u64 8158064640168781261), .lit (.int .u64 13096744586834688815), .lit (.int .u64 16840607885511220156), .lit (.int .u64 4131703408338449720), .lit (.int .u64 6480981068601479193), .lit (.int .u64 10538285296894168987), .lit (.int .u64 12329834152419229976), .lit (.int .u64 15566598209576043074), .lit (.int .u64 1334009975649890238), .lit (.int .u64 2608012711638119052), .lit (.int .u64 6128411473006802146), .lit (.int .u64 8268148722764581231), .lit (.int .u64 9286055187155687089), .lit (.int .u64 11230858885718282805), .lit (.int .u64 13951009754708518548), .lit (.int .u64 16472876342353939154), .lit (.int .u64 17275323862435702243), .lit (.int .u64 1135362057144423861), .lit (.int .u64 2597628984639134821), .lit (.int .u64 3308224258029322869), .lit (.int .u64 5365058923640841347), .lit (.int .u64 6679025012923562964), .lit (.int .u64 8573033837759648693), .lit (.int .u64 10970295158949994411), .lit (.int .u64 12119686244451234320), .lit (.int .u64 12683024718118986047), .lit (.int .u64 13788192230050041572), .lit (.int .u64 14330467153632333762), .lit (.int .u64 15395433587784984357), .lit (.int .u64 489312712824947311), .lit (.int .u64 1452737877330783856), .lit (.int .u64 2861767655752347644), .lit (.int .u64 3322285676063803686), .lit (.int .u64 5560940570517711597), .lit (.int .u64 5996557281743188959), .lit (.int .u64 7280758554555802590), .lit (.int .u64 8532644243296465576), .lit (.int .u64 9350256976987008742), .lit (.int .u64 10552545826968843579), .lit (.int .u64 11727347734174303076), .lit (.int .u64 12113106623233404929), .lit (.int .u64 14000437183269869457), .lit (.int .u64 14369950271660146224), .lit (.int .u64 15101387698204529176), .lit (.int .u64 15463397548674623760), .lit (.int .u64 17586052441742319658), .lit (.int .u64 1182934255886127544), .lit (.int .u64 1847814050463011016), .lit (.int .u64 2177327727835720531), .lit (.int .u64 2830643537854262169), .lit (.int .u64 3796741975233480872), .lit (.int .u64 4115178125766777443), .lit (.int .u64 5681478168544905931), .lit (.int .u64 6601373596472566643), .lit (.int .u64 7507060721942968483), .lit (.int .u64 8399075790359081724), .lit (.int .u64 8693463985226723168), .lit (.int .u64 9568029438360202098), .lit (.int .u64 10144078919501101548), .lit (.int .u64 10430055236837252648), .lit (.int .u64 11840083180663258601), .lit (.int .u64 13761210420658862357), .lit (.int .u64 14299343276471374635), .lit (.int .u64 14566680578165727644), .lit (.int .u64 15097957966210449927), .lit (.int .u64 16922976911328602910), .lit (.int .u64 17689382322260857208), .lit (.int .u64 500013540394364858), .lit (.int .u64 748580250866718886), .lit (.int .u64 1242879168328830382), .lit (.int .u64 1977374033974150939), .lit (.int .u64 2944078676154940804), .lit (.int .u64 3659926193048069267), .lit (.int .u64 4368137639120453308), .lit (.int .u64 4836135668995329356), .lit (.int .u64 5532061633213252278), .lit (.int .u64 6448918945643986474), .lit (.int .u64 6902733635092675308), .lit (.int .u64 7801388544844847127)]

/-- 'fellowshiplaw13.SignSigns': WHATEVER THE INPUT: true; the input reads as it did. -/
def signSignsSpec : ChangeSpec := { name := "signSigns", fn := fun _ => fun
  | [d1, d2, d3] => { results := [.lit (.bool true)], args := [d1, d2, d3] }
  | _ => none }
def signSignsRow : OpenClaim := { program := "ytoggkhjaghkpnaagreatdoor", sum := "42c454c18877908da6c9e001295cb155017eb1a06f58065a35ad6116747209e1", func := "fellowship/fellowshiplaw13.SignSigns", spec := "signSigns", inPlace := ["math/bits.Add64"], unfollowed := true, recurses := true, named := ["fellowship/shawide.start", "fellowship/api.ErrRange", "fellowship/shawide.rounds", "fellowship/api.ErrLong", "fellowship/scalar.tail", "fellowship/scalar.order", "fellowship/field.baseX", "fellowship/field.baseY", "fellowship/field.curve", "fellowship/api.ErrForm", "fellowship/field.turn"], apart := false, laid := [("fellowship/api.ErrRange", laid_fellowship_api_ErrRange), ("fellowship/api.ErrLong", laid_fellowship_api_ErrLong), ("fellowship/api.ErrForm", laid_fellowship_api_ErrForm), ("fellowship/field.curve", laid_fellowship_field_curve), ("fellowship/field.baseX", laid_fellowship_field_baseX), ("fellowship/field.baseY", laid_fellowship_field_baseY), ("fellowship/field.turn", laid_fellowship_field_turn), ("fellowship/scalar.order", laid_fellowship_scalar_order), ("fellowship/scalar.tail", laid_fellowship_scalar_tail), ("fellowship/shawide.start", laid_fellowship_shawide_start), ("fellowship/shawide.rounds", laid_fellowship_shawide_rounds)] }
def SignSignsSaid : Prop := signSignsRow.holds Tryz.pinned (OpenSpec.ofChange signSignsSpec)

/-- ITS FALSE NEIGHBOUR: 'it returns false'. Refute it at one input. -/
def signSignsWrong : ChangeSpec := { name := "signSigns", fn := fun _ => fun
  | [d1, d2, d3] => { results := [.lit (.bool false)], args := [d1, d2, d3] }
  | _ => none }
def SignSignsWrongFalsely : Prop := signSignsRow.holds Tryz.pinned (OpenSpec.ofChange signSignsWrong)

/-- 'fellowshiplaw13.SignVerifies': WHATEVER THE INPUT: true; the input reads as it did. -/
def signVerifiesSpec : ChangeSpec := { name := "signVerifies", fn := fun _ => fun
  | [d1, d2, d3] => { results := [.lit (.bool true)], args := [d1, d2, d3] }
  | _ => none }
def signVerifiesRow : OpenClaim := { program := "ytoggkhjaghkpnaagreatdoor", sum := "42c454c18877908da6c9e001295cb155017eb1a06f58065a35ad6116747209e1", func := "fellowship/fellowshiplaw13.SignVerifies", spec := "signVerifies", inPlace := ["math/bits.Add64"], unfollowed := true, recurses := true, named := ["fellowship/shawide.start", "fellowship/api.ErrRange", "fellowship/shawide.rounds", "fellowship/api.ErrLong", "fellowship/scalar.tail", "fellowship/scalar.order", "fellowship/field.baseX", "fellowship/field.baseY", "fellowship/field.curve", "fellowship/api.ErrForm", "fellowship/field.turn"], apart := false, laid := [("fellowship/api.ErrRange", laid_fellowship_api_ErrRange), ("fellowship/api.ErrLong", laid_fellowship_api_ErrLong), ("fellowship/api.ErrForm", laid_fellowship_api_ErrForm), ("fellowship/field.curve", laid_fellowship_field_curve), ("fellowship/field.baseX", laid_fellowship_field_baseX), ("fellowship/field.baseY", laid_fellowship_field_baseY), ("fellowship/field.turn", laid_fellowship_field_turn), ("fellowship/scalar.order", laid_fellowship_scalar_order), ("fellowship/scalar.tail", laid_fellowship_scalar_tail), ("fellowship/shawide.start", laid_fellowship_shawide_start), ("fellowship/shawide.rounds", laid_fellowship_shawide_rounds)] }
def SignVerifiesSaid : Prop := signVerifiesRow.holds Tryz.pinned (OpenSpec.ofChange signVerifiesSpec)

/-- ITS FALSE NEIGHBOUR: 'it returns false'. Refute it at one input. -/
def signVerifiesWrong : ChangeSpec := { name := "signVerifies", fn := fun _ => fun
  | [d1, d2, d3] => { results := [.lit (.bool false)], args := [d1, d2, d3] }
  | _ => none }
def SignVerifiesWrongFalsely : Prop := signVerifiesRow.holds Tryz.pinned (OpenSpec.ofChange signVerifiesWrong)

/- THE SECOND FORM. 'bulk': how many values and letters a reading holds, each counted each time it is reached (what is shared counts as often as it is met; a slice's spare places count too). A statement '..UptoSaid' is the law's where the arguments, and the package variables that the reading takes, are together of bulk at most 1048576: NARROWER than '..Said'. Prove '..Said' where nothing that the law and all that it calls make is longer than what came in: it says more and counts as full. Else prove '..UptoSaid'. A law counts once. -/
mutual
def uptoBulk {H : Type} : DataW H → Nat
  | .lit (.string bytes) => bytes.length + 1
  | .lit _ => 1
  | .nil => 1
  | .ptr d => uptoBulk d + 1
  | .slice elems spare => uptoBulkAll elems + uptoBulkAll spare + 1
  | .agg parts => uptoBulkAll parts + 1
  | .iface _ d => uptoBulk d + 1
  | .map entries => uptoBulkEntries entries + 1
  | .held _ => 1
def uptoBulkAll {H : Type} : List (DataW H) → Nat
  | [] => 0
  | d :: r => uptoBulk d + uptoBulkAll r
def uptoBulkEntries {H : Type} : List (Lit × DataW H) → Nat
  | [] => 0
  | x :: r => uptoBulkEntry x + uptoBulkEntries r
def uptoBulkEntry {H : Type} : Lit × DataW H → Nat
  | (.string bytes, d) => bytes.length + uptoBulk d + 1
  | (_, d) => uptoBulk d + 1
 end
def uptoSmall : (H : Type) → List (DataW H) → Bool := fun _ ds => decide (uptoBulkAll ds ≤ 1048576)
def OpenSpec.upto (s : _root_.Go.ChangeSpec) : _root_.Go.OpenSpec := { _root_.Go.OpenSpec.ofChange s with cond := some uptoSmall }

/-- 'fellowshiplaw13.SignSigns', WHERE WHAT IT READS IS OF BULK AT MOST 1048576: true; the input reads as it did. -/
def signSignsUptoRow : OpenClaim := { program := "ytoggkhjaghkpnaagreatdoor", sum := "42c454c18877908da6c9e001295cb155017eb1a06f58065a35ad6116747209e1", func := "fellowship/fellowshiplaw13.SignSigns", spec := "signSigns", inPlace := ["math/bits.Add64"], unfollowed := true, recurses := true, named := ["fellowship/shawide.start", "fellowship/api.ErrRange", "fellowship/shawide.rounds", "fellowship/api.ErrLong", "fellowship/scalar.tail", "fellowship/scalar.order", "fellowship/field.baseX", "fellowship/field.baseY", "fellowship/field.curve", "fellowship/api.ErrForm", "fellowship/field.turn"], apart := false, laid := [("fellowship/api.ErrRange", laid_fellowship_api_ErrRange), ("fellowship/api.ErrLong", laid_fellowship_api_ErrLong), ("fellowship/api.ErrForm", laid_fellowship_api_ErrForm), ("fellowship/field.curve", laid_fellowship_field_curve), ("fellowship/field.baseX", laid_fellowship_field_baseX), ("fellowship/field.baseY", laid_fellowship_field_baseY), ("fellowship/field.turn", laid_fellowship_field_turn), ("fellowship/scalar.order", laid_fellowship_scalar_order), ("fellowship/scalar.tail", laid_fellowship_scalar_tail), ("fellowship/shawide.start", laid_fellowship_shawide_start), ("fellowship/shawide.rounds", laid_fellowship_shawide_rounds)], narrowed := true }
def SignSignsUptoSaid : Prop := signSignsUptoRow.holds Tryz.pinned (OpenSpec.upto signSignsSpec)

/-- 'fellowshiplaw13.SignVerifies', WHERE WHAT IT READS IS OF BULK AT MOST 1048576: true; the input reads as it did. -/
def signVerifiesUptoRow : OpenClaim := { program := "ytoggkhjaghkpnaagreatdoor", sum := "42c454c18877908da6c9e001295cb155017eb1a06f58065a35ad6116747209e1", func := "fellowship/fellowshiplaw13.SignVerifies", spec := "signVerifies", inPlace := ["math/bits.Add64"], unfollowed := true, recurses := true, named := ["fellowship/shawide.start", "fellowship/api.ErrRange", "fellowship/shawide.rounds", "fellowship/api.ErrLong", "fellowship/scalar.tail", "fellowship/scalar.order", "fellowship/field.baseX", "fellowship/field.baseY", "fellowship/field.curve", "fellowship/api.ErrForm", "fellowship/field.turn"], apart := false, laid := [("fellowship/api.ErrRange", laid_fellowship_api_ErrRange), ("fellowship/api.ErrLong", laid_fellowship_api_ErrLong), ("fellowship/api.ErrForm", laid_fellowship_api_ErrForm), ("fellowship/field.curve", laid_fellowship_field_curve), ("fellowship/field.baseX", laid_fellowship_field_baseX), ("fellowship/field.baseY", laid_fellowship_field_baseY), ("fellowship/field.turn", laid_fellowship_field_turn), ("fellowship/scalar.order", laid_fellowship_scalar_order), ("fellowship/scalar.tail", laid_fellowship_scalar_tail), ("fellowship/shawide.start", laid_fellowship_shawide_start), ("fellowship/shawide.rounds", laid_fellowship_shawide_rounds)], narrowed := true }
def SignVerifiesUptoSaid : Prop := signVerifiesUptoRow.holds Tryz.pinned (OpenSpec.upto signVerifiesSpec)

end Rows
end Go.Proofs.YtoggkhjaghkpnaaGreatDoor
