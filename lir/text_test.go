package lir

import (
	"math"
	"math/rand"
	"slices"
	"strconv"
	"strings"
	"testing"

	"patina/api"
)

const wholeText = "fn main 0 5 4\n" +
	"block 0\n" +
	"\tconst 0 -7\n" +
	"\tmove 1 0\n" +
	"\tbin 2 add 0 1\n" +
	"\tframe 3 2\n" +
	"\tstore 3 8 2\n" +
	"\tload 4 3 8\n" +
	"\tcall 4 f 0 1\n" +
	"\tcall -1 rt.print 4\n" +
	"\tif 4 2 1\n" +
	"block 1\n" +
	"\tcall 2 rt.read\n" +
	"\tcall 3 rt.alloc 4\n" +
	"\tcall -1 rt.free 3 4\n" +
	"\tjump 2\n" +
	"block 2\n" +
	"\tret -1\n" +
	"block 3\n" +
	"\ttrap 255\n" +
	"fn f 2 3 0\n" +
	"block 0\n" +
	"\tbin 2 mulh 1 0\n" +
	"\tcall -1 _g9\n" +
	"\tret 2\n" +
	"fn _g9 0 0 0\n" +
	"block 0\n" +
	"\tret -1\n"

// 6.3: the text of each instruction.
func TestText(t *testing.T) {
	if s, e := Text(whole()); s != wholeText || e != api.OK {
		t.Errorf("%s%v", s, e)
	}
	for _, c := range []struct {
		i    api.LIns
		want string
	}{
		{constant(2, math.MinInt64), "const 2 -9223372036854775808"}, {constant(0, 0), "const 0 0"}, {load(1, 2, -1<<31), "load 1 2 -2147483648"}, {store(1, -8, 2), "store 1 -8 2"},
		{store(2, 16, 1), "store 2 16 1"}, {bin(0, "sltu", 1, 2), "bin 0 sltu 1 2"}, {calls(2, "two", 1, 0), "call 2 two 1 0"}, {calls(-1, "main"), "call -1 main"}, {branch(2, 0, 1), "if 2 0 1"}, {ret(2), "ret 2"}, {trap(0), "trap 0"}, {frame(1, 0), "frame 1 0"},
	} {
		s, e := Text(three(c.i))
		if l := strings.Split(s, "\n"); e != api.OK || len(l) < 3 || l[2] != "\t"+c.want {
			t.Errorf("%q, not %q", s, c.want)
		}
	}
}

// readText is the program that a text tells.
func readText(t *testing.T, s string) []api.LFn {
	t.Helper()
	var l []api.LFn
	n := func(s string) int {
		v, err := strconv.Atoi(s)
		if err != nil || strconv.Itoa(v) != s {
			t.Fatal("no number", s)
		}
		return v
	}
	for line := range strings.Lines(s) {
		line, ended := strings.CutSuffix(line, "\n")
		w := strings.Split(line, " ")
		if !ended {
			t.Fatal("no end", line)
		}
		last := len(l) - 1
		if w[0] == "fn" {
			l = append(l, api.LFn{Name: w[1], Params: n(w[2]), Regs: n(w[3]), Frame: n(w[4])})
			continue
		}
		blocks := &l[last].Blocks
		if w[0] == "block" {
			if n(w[1]) != len(*blocks) {
				t.Fatal(line)
			}
			*blocks = append(*blocks, api.LBlock{})
			continue
		}
		i := api.LIns{Op: 1 + slices.Index(strings.Fields("const move bin load store frame call jump if ret trap"), strings.TrimPrefix(w[0], "\t"))}
		switch i.Op {
		case api.LConst, api.LFrame:
			i.D, i.N = n(w[1]), int64(n(w[2]))
		case api.LMove:
			i.D, i.A = n(w[1]), n(w[2])
		case api.LBin:
			i.D, i.Name, i.A, i.B = n(w[1]), w[2], n(w[3]), n(w[4])
		case api.LLoad:
			i.D, i.A, i.N = n(w[1]), n(w[2]), int64(n(w[3]))
		case api.LStore:
			i.A, i.N, i.B = n(w[1]), int64(n(w[2])), n(w[3])
		case api.LCall:
			i.D, i.Name = n(w[1]), w[2]
			for _, r := range w[3:] {
				i.Args = append(i.Args, n(r))
			}
		case api.LJump:
			i.To = n(w[1])
		case api.LIf:
			i.A, i.To, i.Else = n(w[1]), n(w[2]), n(w[3])
		case api.LRet:
			i.A = n(w[1])
		case api.LTrap:
			i.N = int64(n(w[1]))
		default:
			t.Fatal(line)
		}
		b := &(*blocks)[len(*blocks)-1]
		b.Ins = append(b.Ins, i)
	}
	return l
}

// 6.6, P9: what a text says is the program, so that unlike programs have unlike texts.
func TestTextSaysAll(t *testing.T) {
	right := 0
	texts := map[string][]api.LFn{wholeText: whole()}
	for _, l := range changes() {
		s, e := Text(l)
		if e != Check(l) {
			t.Fatal(e)
		}
		if e != api.OK {
			continue
		}
		right++
		if !Same(readText(t, s), l) {
			t.Fatalf("%s: %v", s, l)
		}
		if o, there := texts[s]; there && !Same(o, l) {
			t.Fatalf("%s: %v and %v", s, o, l)
		}
		texts[s] = l
	}
	if right < 50 {
		t.Error("poor samples", right)
	}
	r := rand.New(rand.NewSource(2))
	for range 500 {
		l := anyProgram(r, true)
		s, e := Text(l)
		if e != api.OK || !Same(readText(t, s), l) {
			t.Fatal(s, e)
		}
	}
}
