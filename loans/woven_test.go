package loans

import (
	"math/rand"
	"strconv"
	"strings"
	"testing"

	"patina/api"
	"patina/mirtest"
)

// lends, using and breaking are statements of the function that tests look at: such as make and hand on loans, such as use references, such as loans may forbid.
const (
	lends    = "_11 = ref _1; _11 = ref _10; _12 = copy _11; _11 = copy _12; _12 = ref _11.*; _13 = mut _1; _13 = mut _10; _14 = mut _13.*; _14 = move _13; _13 = move _14; _14 = mut _14.*; _11 = ref _13.*; _16 = mut _4; _16 = mut _24; _13 = mut _16.*.0.*; _19 = mut _16.*.1; _13 = mut _19.*.*; _11 = ref _4.1.*; _18 = ref _4.0; _22 = mut _5; _17 = ref _22.*.@2; _13 = mut _5.@1; _11 = ref _28.*.0.*; _0 = copy _11; _0 = ref _12.*; _0 = ref _10; _27 = mut _6; _22 = mut _27.*.@3"
	using    = "_10 = copy _11.*; _30 = copy _12.* < 1; _13.* = 2; _14.* = copy _1; _10 = copy _13.*; _16.*.0 = box 1; _30 = 1 < copy _17.*.0; _10 = tag _22.*; _10 = tag _5; drop _16.*.1; _30 = 1 < copy _18.*.*; _27.* = pick X 0 1; _22.*.@2.0 = 7"
	breaking = "dead _1; dead _10; live _10; live _1; drop _4; drop _4.0; free _28; drop _28; drop _5; dead _4; _1 = 1; _10 = 2; _4.0 = box 1; _4 = move _24; _24 = move _4; _28 = box move _4; _10 = copy _1; _5 = pick E 0; live _11; dead _13; drop _6; free _4.1; _6.@3 = move _5"
	lastOnes = "if copy _2 A B; goto A; _11 = call first copy _11 copy _12 -> A; _14 = call keep move _13 -> A; _12 = call mixed copy _11.* copy _17 move _3 move _16 -> A; return; return; _10 = call give -> A; _20 = call take move _3 copy _7 -> A; switch copy _10 1 A B; if copy _30 A B; panic 101; _13.* = call give -> A"
)

// more is how many locals stand between the parameters and the others in wide functions: their numbers need more than one word of a set.
const more = 90

// widened is a text with the locals behind the parameters moved on.
func widened(text string) string {
	parts := strings.Split(text, "_")
	for k, part := range parts[1:] {
		end := len(part) - len(strings.TrimLeft(part, "0123456789"))
		if n, _ := strconv.Atoi(part[:end]); n > 6 {
			parts[k+1] = strconv.Itoa(n+more) + part[end:]
		}
	}
	return strings.Join(parts, "_")
}

// woven is MIR with one function of many references, by choices.
func woven(t *testing.T, r *rand.Rand) api.Mir {
	t.Helper()
	most := 8
	if r.Intn(20) == 0 {
		most = 70
	}
	choose := func(l string) string {
		all := strings.Split(l, "; ")
		return all[r.Intn(len(all))]
	}
	count := 1 + r.Intn(5)
	text := ""
	for range count {
		text += "bb\n"
		for range 2 + r.Intn(most) {
			text += choose([]string{lends, lends, using, breaking}[r.Intn(4)]) + "\n"
		}
		end := strings.Replace(choose(lastOnes), "A", strconv.Itoa(r.Intn(count)), 1)
		text += strings.Replace(end, "B", strconv.Itoa(r.Intn(count)), 1) + "\n"
	}
	if r.Intn(4) == 0 {
		return programOf(t, tested, strings.Repeat("7: i64\n", more)+mirtest.Lines(others)+widened(text))
	}
	return programOf(t, tested, mirtest.Lines(others)+text)
}

// 24.1 to 24.3: functions of many references.
func TestWoven(t *testing.T) {
	r := rand.New(rand.NewSource(247))
	codes, pairs := map[api.Errno]int{}, 0
	for range 800 {
		m := woven(t, r)
		pairs += wantAsTheModel(t, r, m, 0)
		d := Check(m)
		if want := modelOf(m.Items, m.Fns[0]).firstError(); d != want {
			t.Fatalf("%v, not %v", d, want)
		}
		codes[d.Code]++
	}
	if pairs < 1500 || codes[api.OK] < 100 || codes[api.ErrBorrow] < 100 || codes[api.ErrGone] < 20 {
		t.Error("seldom:", pairs, codes)
	}
}
