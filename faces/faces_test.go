// Package faces holds the calls of all layers against the document: it builds only while each has the name and the signature that its chapter lists.
package faces

import (
	"testing"

	"augury/api"
	"augury/arch"
	"augury/boun"
	"augury/clas"
	"augury/code"
	"augury/conf"
	"augury/dirs"
	"augury/exec"
	"augury/fetc"
	"augury/lexr"
	"augury/memo"
	"augury/oset"
	"augury/pair"
	"augury/prod"
	"augury/prog"
	"augury/read"
	"augury/repo"
	"augury/reso"
	"augury/retb"
	"augury/reti"
	"augury/robq"
	"augury/scri"
	"augury/seqm"
	"augury/show"
	"augury/srch"
	"augury/syns"
	"augury/tool"
	"augury/witn"
	"augury/word"
)

func TestFaces(t *testing.T) {
	var _ func(int) bool = word.Ok
	var _ func(int, int) int = word.Mask
	var _ func(int, int, int, int) (int, bool) = word.Do
	var _ func(int) int = word.Size
	var _ func(...int) []byte = code.Put
	var _ func([]byte) ([]int, bool) = code.Get
	var _ func([]byte, []byte) bool = code.Less
	var _ func(int) *oset.Set = oset.New
	var _ func(*oset.Set, []byte) (int, bool, bool) = (*oset.Set).Add
	var _ func(*oset.Set, []byte) bool = (*oset.Set).Has
	var _ func(*oset.Set, int) ([]byte, bool) = (*oset.Set).At
	var _ func(*oset.Set, []byte) int = (*oset.Set).Rank
	var _ func(*oset.Set) int = (*oset.Set).Len
	var _ func(string) ([]api.Tok, int, bool) = lexr.Line
	var _ func(string) (api.Item, int, bool) = syns.Parse
	var _ func(api.Item) (string, bool) = syns.Print
	var _ func(string) (api.Prog, int, int, bool) = prog.Parse
	var _ func(api.Prog) (string, bool) = prog.Print
	var _ func(api.Prog) bool = prog.Ok
	var _ func(api.Prog) int = arch.Cells
	var _ func(api.Prog) []api.Place = arch.Places
	var _ func(api.Prog, []int) (api.State, bool) = arch.Start
	var _ func(api.State) []byte = arch.Code
	var _ func(api.Prog, api.State, api.State) bool = arch.Low
	var _ func(api.Prog, int) api.Ins = seqm.At
	var _ func(api.Prog, api.State) (api.State, []api.Obs, int) = seqm.Step
	var _ func(api.Prog, api.State, int) (api.State, []api.Obs, int, int) = seqm.Run
	var _ func([]api.Ent, api.Ent, int) ([]api.Ent, bool) = robq.Push
	var _ func([]api.Ent) (api.Ent, []api.Ent, bool) = robq.Pop
	var _ func([]api.Ent, int) []api.Ent = robq.Cut
	var _ func([]api.Ent, int, api.Ent) ([]api.Ent, bool) = robq.Put
	var _ func(api.Ins) (int, bool) = reso.Dest
	var _ func(api.Prog, [4]int, []api.Ent, int, int) (int, bool) = reso.Reg
	var _ func(api.Prog, [4]int, []api.Ent, int, api.Val) (int, bool) = reso.Val
	var _ func(api.Prog, []api.Ent, int) bool = reso.Blocked
	var _ func(api.Prog, []int, []api.Ent, int, int) (int, int, bool) = memo.Load
	var _ func(api.Prog, []api.Ent, int, int) (int, bool) = memo.Hazard
	var _ func([]int, int) []int = retb.Push
	var _ func([]int) (int, []int, bool) = retb.Pop
	var _ func(api.Prog, []int, []api.Ent, int) ([]int, bool) = retb.Real
	var _ func(api.State) api.Conf = conf.Begin
	var _ func(api.Conf) []byte = conf.Code
	var _ func([]byte) (api.Conf, bool) = conf.Parse
	var _ func(api.Conf) bool = conf.Final
	var _ func(api.Prog, api.Conf) int = fetc.Guesses
	var _ func(api.Prog, api.Conf, int) (api.Conf, bool) = fetc.Fetch
	var _ func(api.Prog, api.Conf, int) bool = exec.Can
	var _ func(api.Prog, api.Conf, int) (api.Conf, []api.Obs, bool) = exec.Do
	var _ func(api.Prog, api.Conf, int) bool = exec.CanAddr
	var _ func(api.Prog, api.Conf, int) (api.Conf, []api.Obs, bool) = exec.Addr
	var _ func(api.Prog, api.Conf) bool = reti.Can
	var _ func(api.Prog, api.Conf) (api.Conf, bool) = reti.Do
	var _ func(api.Dir, api.Dir) bool = dirs.Less
	var _ func(api.Prog, api.Conf) []api.Dir = dirs.All
	var _ func(api.Prog, api.Conf, api.Dir) bool = dirs.Can
	var _ func(api.Prog, api.Conf, api.Dir) (api.Conf, []api.Obs, bool) = dirs.Do
	var _ func([]api.Dir) (string, bool) = scri.Print
	var _ func(string) ([]api.Dir, int, bool) = scri.Parse
	var _ func(api.Prog, api.Conf, []api.Dir) (api.Conf, []api.Obs, int) = scri.Run
	var _ func(api.Prog, int) (int, bool) = pair.Count
	var _ func(api.Prog, int) (api.State, api.State, bool) = pair.At
	var _ func(api.Conf, api.Conf) []byte = prod.Code
	var _ func(api.Prog, api.Conf, api.Conf) []api.Dir = prod.All
	var _ func(api.Prog, api.Conf, api.Conf, api.Dir) (api.Conf, api.Conf, bool, bool) = prod.Step
	var _ func(api.Prog, int) api.Found = srch.Search
	var _ func(api.Prog, api.State, api.State, []api.Dir) (int, bool) = witn.Differs
	var _ func(api.Prog, api.Found) bool = witn.Right
	var _ func(api.Prog, api.State, api.State) bool = clas.Differ
	var _ func(api.Prog, int) (int, bool, bool) = clas.Sequential
	var _ func(api.Prog) uint64 = boun.Confs
	var _ func(api.Prog) uint64 = boun.Pairs
	var _ func(api.Prog, api.State) string = show.State
	var _ func(api.Prog, string) (api.State, int, bool) = show.Parse
	var _ func([]byte, int) []byte = repo.Answer
	var _ func(api.Prog, api.Found) string = repo.Print
	var _ func(api.Prog, string) (api.Found, bool, bool) = read.Parse
	var _ func([]byte, []byte) bool = read.Check
	var _ func([]string, []byte) ([]byte, int) = tool.Main
}
