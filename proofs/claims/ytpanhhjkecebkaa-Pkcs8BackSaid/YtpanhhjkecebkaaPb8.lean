import Derived.Test.YtpanhhjkecebkaaPb5
import Derived.BigQuiet
set_option maxRecDepth 100000
namespace Go.Proofs.Ytpanhhjkecebkaa
open Go.RowKit
namespace Prn
def allB:List UInt8:=[65,66,67,68,69,70,71,72,73,74,75,76,77,78,79,80,81,82,83,84,85,86,87,88,89,90,97,98,99,100,101,102,103,104,105,106,107,108,109,110,111,112,113,114,115,116,117,118,119,120,121,122,48,49,50,51,52,53,54,55,56,57,32,39,40,41,43,44,45,46,47,58,61,63]
def okc (c:UInt8):Bool:=allB.any (· == c)
def prnB (l:List UInt8):Bool:=l.all okc
end Prn
namespace RefDig
end RefDig
end Go.Proofs.Ytpanhhjkecebkaa
