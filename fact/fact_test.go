package fact

import (
	"fmt"
	"reflect"
	"slices"
	"strings"
	"testing"

	"corollary/api"
)

func mk(name string, args ...string) api.Fact {
	return api.Fact{Name: name, Args: args}
}

// text tells nil and empty lists the same (Z3), and all else apart.
func text(l []api.Fact) string {
	var b strings.Builder
	for _, f := range l {
		fmt.Fprintf(&b, "%q%q ", f.Name, f.Args)
	}
	return b.String()
}

func wantFacts(t *testing.T, what string, got, want []api.Fact) {
	t.Helper()
	if text(got) != text(want) {
		t.Errorf("%s: %s comes, not %s", what, text(got), text(want))
	}
}

// many has n facts that rise.
func many(n int) []api.Fact {
	var out []api.Fact
	for i := range n {
		out = append(out, mk(fmt.Sprintf("n%06d", i)))
	}
	return out
}

func isSmallOrDigit(c byte) bool {
	return strings.IndexByte("abcdefghijklmnopqrstuvwxyz0123456789", c) >= 0
}

func isPart(c byte) bool {
	return isSmallOrDigit(c) || strings.IndexByte("ABCDEFGHIJKLMNOPQRSTUVWXYZ_", c) >= 0
}

func TestNamedByteByByte(t *testing.T) {
	for i := range 256 {
		c := byte(i)
		one := string([]byte{c})
		if got := Named(one); got != isSmallOrDigit(c) {
			t.Errorf("Named(%q): %v", one, got)
		}
		for _, s := range []string{"a" + one, "a" + one + "b", "0" + one, strings.Repeat("z", api.MaxName-1) + one} {
			if got := Named(s); got != isPart(c) {
				t.Errorf("Named(%q): %v", s, got)
			}
		}
	}
}

func TestNamedLengths(t *testing.T) {
	for n := range 3 * api.MaxName {
		s := strings.Repeat("a", n)
		if got := Named(s); got != (n >= 1 && n <= api.MaxName) {
			t.Errorf("Named of %d bytes: %v", n, got)
		}
	}
	if Named("ä") || Named("aä") || Named(strings.Repeat("a", 1<<20)) {
		t.Error("Named tells a name where there is none")
	}
}

func TestWrong(t *testing.T) {
	long := strings.Repeat("a", api.MaxName)
	for _, c := range []struct {
		f    api.Fact
		want api.Errno
	}{
		{mk("a"), api.OK},
		{api.Fact{Name: "a", Args: []string{}}, api.OK},
		{mk("7", "x", "1", "aB_", "x"), api.OK},
		{mk(long, long, long, long, long), api.OK},
		{mk(""), api.ErrName},
		{mk("A"), api.ErrName},
		{mk(long + "a"), api.ErrName},
		{mk("a", ""), api.ErrName},
		{mk("a", "X"), api.ErrName},
		{mk("a", long+"a"), api.ErrName},
		{mk("a", "x", "x", "x", "_"), api.ErrName},
		{mk("a", "X", "x", "x", "x"), api.ErrName},
		{mk("a", "1", "2", "3", "4", "5"), api.ErrMany},
		{mk("a", "", "", "", "", ""), api.ErrMany},
		{mk("A", "1", "2", "3", "4", "5"), api.ErrName},
	} {
		if got := Wrong(c.f); got != c.want {
			t.Errorf("Wrong(%q): %d comes, not %d", c.f, got, c.want)
		}
	}
}

// rising has facts that are named and such that are not, in the order that A1 asks for.
var rising = []api.Fact{
	mk(""),
	mk("", ""),
	mk("A"),
	mk("Z", "z"),
	mk("a"),
	mk("a", ""),
	mk("a", "A"),
	mk("a", "x"),
	mk("a", "xx"),
	mk("a", "y"),
	mk("a", "\x80"),
	mk("a", "\xff"),
	mk("a", "", "y"),
	mk("a", "a", "z"),
	mk("a", "b", "a"),
	mk("a", "b", "aa"),
	mk("a", "", "", ""),
	mk("a", "1", "2", "3", "4"),
	mk("a", "", "", "", "", ""),
	mk("aa"),
	mk("b"),
	mk("b", "a"),
	mk("\u00e4"),
	mk("\uffff"),
	mk("\U00010000"),
	mk("\xff"),
}

func sign(n int) int {
	switch {
	case n < 0:
		return -1
	case n > 0:
		return 1
	}
	return 0
}

func TestCompare(t *testing.T) {
	for i, a := range rising {
		for j, b := range rising {
			if got := sign(Compare(a, b)); got != sign(i-j) {
				t.Errorf("Compare(%q, %q): %d", a, b, got)
			}
		}
	}
	if Compare(api.Fact{Name: "a"}, api.Fact{Name: "a", Args: []string{}}) != 0 {
		t.Error("nil and empty Args are not the same")
	}
}

func TestSet(t *testing.T) {
	five := mk("b", "1", "2", "3", "4", "5")
	for _, c := range []struct {
		name string
		l    []api.Fact
		want api.Fault
	}{
		{"nil", nil, api.Fault{}},
		{"empty", []api.Fact{}, api.Fault{}},
		{"one", []api.Fact{mk("a")}, api.Fault{}},
		{"rising", []api.Fact{mk("a"), mk("a", "z"), mk("a", "a", "a"), mk("b")}, api.Fault{}},
		{"MaxFacts", many(api.MaxFacts), api.Fault{}},
		{"one too many", many(api.MaxFacts + 1), api.Fault{Err: api.ErrMany}},
		{"many, all wrong", make([]api.Fact, api.MaxFacts+1), api.Fault{Err: api.ErrMany}},
		{"MaxFacts, the first wrong", make([]api.Fact, api.MaxFacts), api.Fault{Err: api.ErrName}},
		{"the last of MaxFacts twice", slices.Concat(many(api.MaxFacts-1), many(api.MaxFacts - 1)[api.MaxFacts-2:]), api.Fault{Err: api.ErrForm, At: api.MaxFacts - 1}},
		{"twice", []api.Fact{mk("a"), mk("b"), mk("b")}, api.Fault{Err: api.ErrForm, At: 2}},
		{"twice, nil and empty", []api.Fact{{Name: "a"}, {Name: "a", Args: []string{}}}, api.Fault{Err: api.ErrForm, At: 1}},
		{"falling", []api.Fact{mk("b"), mk("a")}, api.Fault{Err: api.ErrForm, At: 1}},
		{"apart, but not twice in turn", []api.Fact{mk("a"), mk("b"), mk("a")}, api.Fault{Err: api.ErrForm, At: 2}},
		{"no name", []api.Fact{mk("a"), mk("a", "X")}, api.Fault{Err: api.ErrName, At: 1}},
		{"too many Args", []api.Fact{mk("a"), five}, api.Fault{Err: api.ErrMany, At: 1}},
		{"wrong ahead of falling, of one fact", []api.Fact{mk("b"), mk("A")}, api.Fault{Err: api.ErrName, At: 1}},
		{"wrong, and the same again", []api.Fact{mk("a"), five, five}, api.Fault{Err: api.ErrMany, At: 1}},
		{"falling ahead of wrong, of two", []api.Fact{mk("b"), mk("a"), mk("C")}, api.Fault{Err: api.ErrForm, At: 1}},
	} {
		if got := Set(c.l); got != c.want {
			t.Errorf("%s: %v comes, not %v", c.name, got, c.want)
		}
	}
}

func TestIn(t *testing.T) {
	for n := range len(rising) + 1 {
		for i, f := range rising {
			if got := In(rising[:n], f); got != (i < n) {
				t.Errorf("In(%d facts, %q): %v", n, f, got)
			}
		}
	}
	for i, f := range rising {
		without := slices.Concat(rising[:i], rising[i+1:])
		if In(without, f) {
			t.Errorf("%q is in what is without it", f)
		}
	}
	if In(nil, mk("a")) || In([]api.Fact{}, api.Fact{}) {
		t.Error("something is in nothing")
	}
	if !In([]api.Fact{mk("a"), {Name: "b"}}, api.Fact{Name: "b", Args: []string{}}) {
		t.Error("b with nil Args is not b with empty ones")
	}
}

func TestOwn(t *testing.T) {
	l := []api.Fact{mk("b"), mk("b"), mk("a", "x"), mk("b"), mk("A", ""), mk("a", "1", "2", "3", "4", "5")}
	wantFacts(t, "Own", Own(l), l)
	wantFacts(t, "Own of nothing", Own(nil), nil)
	wantFacts(t, "Own of an empty list", Own([]api.Fact{}), nil)
}

func TestOf(t *testing.T) {
	wantFacts(t, "example 1", Of([]api.Fact{mk("b"), mk("a", "x"), mk("b")}), []api.Fact{mk("a", "x"), mk("b")})
	wantFacts(t, "nothing", Of(nil), nil)
	wantFacts(t, "an empty list", Of([]api.Fact{}), nil)
	wantFacts(t, "the zero fact", Of(make([]api.Fact, 3)), make([]api.Fact, 1))
	wantFacts(t, "nil and empty Args", Of([]api.Fact{{Name: "a", Args: []string{}}, {Name: "a"}}), []api.Fact{mk("a")})
	falling := slices.Clone(rising)
	slices.Reverse(falling)
	wantFacts(t, "what fell", Of(slices.Concat(falling, rising, falling)), rising)
	wantFacts(t, "what rose", Of(rising), rising)
}

func TestNoBoundOnLists(t *testing.T) {
	l := many(5 * api.MaxFacts)
	back := slices.Clone(l)
	slices.Reverse(back)
	wantFacts(t, "Of", Of(back), l)
	wantFacts(t, "Own", Own(back), back)
	wantFacts(t, "Join", Join(back, l[3:]), l)
	wantFacts(t, "Less", Less(back, l[1:]), l[:1])
	for _, f := range l {
		if !In(l, f) {
			t.Fatalf("%q is not in the list", f)
		}
	}
}

func TestJoin(t *testing.T) {
	a, b := []api.Fact{mk("c"), mk("a"), mk("c")}, []api.Fact{mk("b"), mk("a"), mk("a", "x")}
	want := []api.Fact{mk("a"), mk("a", "x"), mk("b"), mk("c")}
	wantFacts(t, "a and b", Join(a, b), want)
	wantFacts(t, "b and a", Join(b, a), want)
	wantFacts(t, "nothing", Join(nil, nil), nil)
	wantFacts(t, "empty lists", Join([]api.Fact{}, []api.Fact{}), nil)
	wantFacts(t, "a and nothing", Join(a, nil), []api.Fact{mk("a"), mk("c")})
	wantFacts(t, "an empty list and a", Join([]api.Fact{}, a), []api.Fact{mk("a"), mk("c")})
}

func TestLess(t *testing.T) {
	a := []api.Fact{mk("c"), mk("a"), mk("c"), mk("b"), mk("a", "x")}
	wantFacts(t, "as they stand", Less(a, []api.Fact{mk("a"), mk("b")}), []api.Fact{mk("c"), mk("c"), mk("a", "x")})
	wantFacts(t, "less nothing", Less(a, nil), a)
	wantFacts(t, "less an empty list", Less(a, []api.Fact{}), a)
	wantFacts(t, "nothing less", Less(nil, a[:1]), nil)
	wantFacts(t, "less all", Less(a, Of(a)), nil)
	wantFacts(t, "less others", Less(a, []api.Fact{mk("a", "y"), mk("d")}), a)
}

// lists has every list of at most n of some facts.
func lists(n int) [][]api.Fact {
	some := []api.Fact{mk("b"), mk("a", "x"), mk("a", "x", "y"), mk("a"), mk("")}
	out := [][]api.Fact{nil}
	for from := 0; n > 0; n-- {
		to := len(out)
		for _, l := range out[from:to] {
			for _, f := range some {
				out = append(out, slices.Concat(l, []api.Fact{f}))
			}
		}
		from = to
	}
	return out
}

// has looks through a list of whatever order.
func has(l []api.Fact, f api.Fact) bool {
	return slices.ContainsFunc(l, func(g api.Fact) bool { return text([]api.Fact{f}) == text([]api.Fact{g}) })
}

func TestSetsAsSetsDo(t *testing.T) {
	all := lists(3)
	for _, l := range all {
		s := Of(l)
		for i := range s {
			if i > 0 && Compare(s[i-1], s[i]) >= 0 || !has(l, s[i]) {
				t.Fatalf("Of(%q): %q", l, s)
			}
		}
		for _, f := range l {
			if !In(s, f) {
				t.Fatalf("Of(%q) has not %q", l, f)
			}
		}
		wantFacts(t, "Of Of", Of(s), s)
		wantFacts(t, "Join with itself", Join(l, l), s)
	}
	for _, a := range all {
		for _, b := range all {
			j, s := Join(a, b), Of(b)
			wantFacts(t, "Join is Of both", j, Of(slices.Concat(a, b)))
			wantFacts(t, "Join either way", j, Join(b, a))
			wantFacts(t, "Less what was joined", Less(j, s), Less(Of(a), s))
			for _, f := range Less(a, s) {
				if has(b, f) {
					t.Fatalf("Less(%q, %q) has %q", a, s, f)
				}
			}
		}
	}
}

// roomy has the list, with room behind it and behind its Args that is not
// nought: two of these tell whether that room was read, or written.
func roomy(l []api.Fact, behind string) []api.Fact {
	out := make([]api.Fact, 0, len(l)+3)
	for _, f := range l {
		args := append(make([]string, 0, len(f.Args)+3), f.Args...)
		spare := args[len(args):cap(args)]
		for i := range spare {
			spare[i] = behind
		}
		out = append(out, api.Fact{Name: f.Name, Args: args})
	}
	spare := out[len(out):cap(out)]
	for i := range spare {
		spare[i] = mk(behind, behind)
	}
	return out
}

// whole tells a list with its spare room.
func whole(l []api.Fact) string {
	var b strings.Builder
	for _, f := range l[:cap(l)] {
		fmt.Fprintf(&b, "%q%q%d ", f.Name, f.Args[:cap(f.Args)], len(f.Args))
	}
	return b.String()
}

// spoil writes over all of a list, and its spare room.
func spoil(l []api.Fact) {
	for i, f := range l[:cap(l)] {
		args := f.Args[:cap(f.Args)]
		for j := range args {
			args[j] = "spoilt"
		}
		l[:cap(l)][i] = api.Fact{Name: "spoilt"}
	}
}

// makers are the calls that answer lists.
var makers = []struct {
	name string
	call func(a, b []api.Fact) []api.Fact
}{
	{"Own", func(a, _ []api.Fact) []api.Fact { return Own(a) }},
	{"Of", func(a, _ []api.Fact) []api.Fact { return Of(a) }},
	{"Join", Join},
	{"Less", Less},
}

var (
	first  = []api.Fact{mk("c", "x"), mk("a"), mk("c", "x"), mk("b", "x", "y"), mk("a")}
	second = []api.Fact{mk("a", "x"), mk("b", "x"), mk("b", "x", "y")}
)

func TestArgumentsAreLeftAsTheyWere(t *testing.T) {
	for _, m := range makers {
		a, b := roomy(first, "zz"), roomy(second, "zz")
		wasA, wasB := whole(a), whole(b)
		m.call(a, b)
		if whole(a) != wasA || whole(b) != wasB {
			t.Errorf("%s changes what it is given", m.name)
		}
	}
	l := roomy(Of(first), "zz")
	was := whole(l)
	Set(l)
	for _, f := range l {
		In(l, f)
		Wrong(f)
		Compare(f, l[0])
	}
	if whole(l) != was {
		t.Error("a call that only asks changes what it is given")
	}
}

func TestSpareRoomIsNotLookedAt(t *testing.T) {
	for _, m := range makers {
		want := m.call(first, second)
		for _, behind := range []string{"", "a", "zz", "NO"} {
			wantFacts(t, m.name, m.call(roomy(first, behind), roomy(second, behind)), want)
		}
	}
	for _, behind := range []string{"", "a", "zz", "NO"} {
		l := roomy(Of(first), behind)
		if f := Set(l); f != (api.Fault{}) {
			t.Errorf("Set with %q behind: %v", behind, f)
		}
		if In(l, mk(behind, behind)) {
			t.Errorf("%q is in the list whose spare room it stands in", behind)
		}
	}
}

func TestAnswersAreNewMemory(t *testing.T) {
	for _, m := range makers {
		a, b := roomy(first, "zz"), roomy(second, "zz")
		got := m.call(a, b)
		was := text(got)
		spoil(a)
		spoil(b)
		if text(got) != was {
			t.Errorf("%s: what came changes with what was given", m.name)
		}
		a, b = roomy(first, "zz"), roomy(second, "zz")
		got = m.call(a, b)
		wasA, wasB := whole(a), whole(b)
		spoil(got)
		if whole(a) != wasA || whole(b) != wasB {
			t.Errorf("%s: what was given changes with what came", m.name)
		}
	}
}

func TestListsOfAnAnswerShareNothing(t *testing.T) {
	shared := []string{"x", "y"}
	a := []api.Fact{{Name: "c", Args: shared}, {Name: "d", Args: shared[:1]}, {Name: "e", Args: shared[:0]}, {Name: "f", Args: shared}}
	for _, m := range makers {
		got := m.call(a, nil)
		for i := range got {
			rest := slices.Concat(got[:i], got[i+1:])
			was := text(rest)
			args := got[i].Args[:cap(got[i].Args)]
			for j := range args {
				args[j] = "spoilt"
			}
			_ = append(got[i].Args, "more")
			if text(rest) != was {
				t.Errorf("%s: %q shares its Args", m.name, got[i])
			}
		}
	}
	if !reflect.DeepEqual(shared, []string{"x", "y"}) {
		t.Error("the Args that were given were changed")
	}
}

func TestNilAndEmptyAnswerTheSame(t *testing.T) {
	bare := []api.Fact{{Name: "b"}, {Name: "a"}}
	empty := []api.Fact{{Name: "b", Args: []string{}}, {Name: "a", Args: make([]string, 0, 4)}}
	for _, m := range makers {
		if !reflect.DeepEqual(m.call(bare, nil), m.call(empty, []api.Fact{})) {
			t.Errorf("%s tells nil and empty apart", m.name)
		}
		if !reflect.DeepEqual(m.call(nil, nil), m.call([]api.Fact{}, make([]api.Fact, 0, 2))) {
			t.Errorf("%s tells nil and empty lists apart", m.name)
		}
	}
}

// Whatever order they stand in, calls of lists that do not rise must end (Z1).
func TestNoPanicOfListsThatDoNotRise(t *testing.T) {
	for _, l := range lists(4) {
		Set(l)
		Less(l, l)
		for _, f := range rising {
			In(l, f)
		}
	}
}

func TestWord(t *testing.T) {
	for i := range 256 {
		one := string([]byte{byte(i)})
		want := ""
		if isPart(byte(i)) {
			want = one + "a"
		}
		if got := Word(one + "a" + "-b"); got != want {
			t.Errorf("Word(%q): %q", one+"a-b", got)
		}
	}
	long := strings.Repeat("_Z9", 1000)
	for _, c := range [][2]string{{"", ""}, {"a", "a"}, {"ab(c", "ab"}, {" a", ""}, {"aä", "a"}, {long, long}, {long + ".", long}} {
		if got := Word(c[0]); got != c[1] {
			t.Errorf("Word(%q): %q", c[0], got)
		}
	}
}
