package rule_test

import (
	"fmt"
	"math/rand"
	"slices"
	"testing"

	"patchbay/api"
	"patchbay/rule"
)

// sizes are how many matches a list may have: the least, the greatest, some between.
func sizes() []int { return []int{0, 1, 2, 3, 7, 8, 64, 255, 256} }

// drawnList answers so many matches that may be, most of them near others of them.
func drawnList(r *rand.Rand, n int) []api.Match {
	var list []api.Match
	for len(list) < n {
		m := drawnMatch(r)
		if len(list) > 0 && r.Intn(3) > 0 {
			m = drawnNear(r, one(r, list))
		}
		list = append(list, m)
	}
	return list
}

// tells tells of rules whose First does not answer what the chapter says.
func tells(t *testing.T, r *rule.Rules, l []api.Match, x pack) {
	t.Helper()
	if got, want := r.First(x.in, x.h), firstOf(l, x); got != want {
		t.Fatalf("of %d matches First(%d, %+v): %d, not %d", len(l), x.in, x.h, got, want)
	}
}

func TestP193Examples(t *testing.T) {
	r := compiled(t, proto(17), api.Match{}, proto(6))
	if got := r.First(0, api.Header{Proto: 17}); got != 0 {
		t.Errorf("First of UDP: %d", got)
	}
	if got := r.First(0, api.Header{Proto: 6}); got != 1 {
		t.Errorf("First of TCP: %d", got)
	}
	if got := r.Len(); got != 3 {
		t.Errorf("Len: %d", got)
	}
	if got := r.Dead(); !slices.Equal(got, []int{2}) {
		t.Errorf("Dead: %v", got)
	}
}

func TestP193CompileOfEachSize(t *testing.T) {
	for n := range 257 {
		r := compiled(t, slices.Repeat([]api.Match{proto(6)}, n)...)
		if got := r.Len(); got != n {
			t.Fatalf("Len of %d: %d", n, got)
		}
		want := -1
		if n > 0 {
			want = 0
		}
		if got := r.First(0, api.Header{Proto: 6}); got != want {
			t.Fatalf("First of %d: %d", n, got)
		}
		if got := r.First(0, api.Header{Proto: 17}); got != -1 {
			t.Fatalf("First of %d, of another protocol: %d", n, got)
		}
	}
}

// The last one counts as the others do, of however many.
func TestP193OneBehindTheOther(t *testing.T) {
	var list []api.Match
	for i := range 256 {
		list = append(list, in(i, i))
	}
	r := compiled(t, list...)
	for _, in := range anyPorts() {
		want := in
		if in < 0 || in > 255 {
			want = -1
		}
		if got := r.First(in, api.Header{}); got != want {
			t.Errorf("First(%d): %d", in, got)
		}
	}
	slices.Reverse(list)
	r = compiled(t, list...)
	for in := range 256 {
		if got := r.First(in, api.Header{}); got != 255-in {
			t.Errorf("First(%d) of them from behind: %d", in, got)
		}
	}
}

func TestP193CompileOfNothing(t *testing.T) {
	for _, r := range []*rule.Rules{compiled(t), compiled(t, []api.Match{}...)} {
		if r.Len() != 0 || r.First(0, api.Header{}) != -1 || len(r.Dead()) > 0 {
			t.Errorf("of no matches: Len %d, First %d, Dead %v", r.Len(), r.First(0, api.Header{}), r.Dead())
		}
	}
}

func TestP193CompileOfTooMany(t *testing.T) {
	for _, n := range []int{257, 258, 300, 511, 512, 513, 1000, 5000, 65536 + 3, 1 << 17} {
		list := make([]api.Match, n)
		if r, e := rule.Compile(list...); r != nil || e != api.ErrLong {
			t.Errorf("Compile of %d: %v, %v", n, r, e)
		}
		for _, at := range []int{0, 255, 256, n - 1} {
			list[at].Asks = 64
		}
		if r, e := rule.Compile(list...); r != nil || e != api.ErrLong {
			t.Errorf("Compile of %d, some of which may not be: %v, %v", n, r, e)
		}
	}
}

// One that may not be, at each place; and each one that may not be, at some places.
func TestP193CompileOfNotMatches(t *testing.T) {
	for _, n := range []int{1, 2, 3, 255, 256} {
		list := make([]api.Match, n)
		for at := range n {
			list[at] = api.Match{Proto: 6}
			if r, e := rule.Compile(list...); r != nil || e != api.ErrMatch {
				t.Fatalf("Compile of %d, of which %d may not be: %v, %v", n, at, r, e)
			}
			list[at] = api.Match{}
		}
		compiled(t, list...)
	}
	for _, m := range notMatches() {
		for _, l := range [][]api.Match{{m}, {m, m}, {{}, m}, {m, {}}, {proto(6), {}, m, proto(6)}} {
			if r, e := rule.Compile(l...); r != nil || e != api.ErrMatch {
				t.Fatalf("Compile(%+v): %v, %v", l, r, e)
			}
		}
	}
}

// What is handed in is neither changed nor kept, nor is the room behind it.
func TestP193CompileKeepsNothing(t *testing.T) {
	whole := []api.Match{dstPort(17, 50, 60), src(read("10.0.0.0/8")), src(read("10.1.0.0/16")), proto(6), in(3, 9), in(4, 9)}
	want := slices.Clone(whole)
	r := compiled(t, whole[:4]...)
	if !slices.Equal(whole, want) {
		t.Errorf("Compile changed what it was handed: %+v", whole)
	}
	dead := r.Dead()
	for i := range whole {
		whole[i] = api.Match{}
	}
	for _, x := range []pack{{0, api.Header{Proto: 17, DstPort: 60}}, {0, api.Header{Proto: 17, DstPort: 61}}, {5, api.Header{Proto: 6, Src: four(10, 1, 2, 3)}}, {5, api.Header{Proto: 6}}} {
		tells(t, r, want[:4], x)
	}
	if r.Len() != 4 || !slices.Equal(r.Dead(), dead) || !slices.Equal(dead, []int{2}) {
		t.Errorf("Len %d, Dead %v, then %v", r.Len(), dead, r.Dead())
	}
	for i := range whole {
		whole[i] = api.Match{Asks: 255}
	}
	tells(t, r, want[:4], pack{5, api.Header{Proto: 6}})
}

// Rules that were compiled of one list are two.
func TestP193CompileTwice(t *testing.T) {
	a, b := compiled(t, proto(6), proto(17)), compiled(t, proto(6), proto(17))
	if a == b || compiled(t) == compiled(t) {
		t.Errorf("Compile answers the same rules twice")
	}
	c := compiled(t, proto(17))
	if a.First(0, api.Header{Proto: 17}) != 1 || c.First(0, api.Header{Proto: 17}) != 0 || b.Len() != 2 || c.Len() != 1 {
		t.Errorf("one's rules are another one's")
	}
}

func TestP193FirstOfDrawn(t *testing.T) {
	r := rand.New(rand.NewSource(1931))
	met := map[bool]int{}
	for _, n := range append(sizes(), 256, 256, 256) {
		for range 6 {
			list := drawnList(r, n)
			rules := compiled(t, list...)
			if rules.Len() != n {
				t.Fatalf("Len of %d: %d", n, rules.Len())
			}
			for range 200 {
				x := drawnPack(r, one(r, append(list, drawnMatch(r))), r.Intn(2) == 0)
				tells(t, rules, list, x)
				met[rules.First(x.in, x.h) > 0]++
			}
		}
	}
	if met[true] < 1000 || met[false] < 1000 {
		t.Errorf("one behind the first one was told so often: %v", met)
	}
}

// Any port and any header: the list is gone through as it is by Meets.
func TestP193FirstIsTheFirstThatMeets(t *testing.T) {
	r := rand.New(rand.NewSource(1932))
	for range 200 {
		list := drawnList(r, 1+r.Intn(12))
		rules := compiled(t, list...)
		for range 50 {
			x := drawnPack(r, one(r, list), false)
			want := slices.IndexFunc(list, func(m api.Match) bool { return rule.Meets(m, x.in, x.h) })
			if got := rules.First(x.in, x.h); got != want {
				t.Fatalf("First(%d, %+v): %d, not %d", x.in, x.h, got, want)
			}
		}
	}
}

func TestP193None(t *testing.T) {
	for i, r := range nones(t) {
		for range 2 {
			if n := r.Len(); n != 0 {
				t.Errorf("none %d: Len %d", i, n)
			}
			for _, in := range anyPorts() {
				if n := r.First(in, api.Header{Proto: 6}); n != -1 {
					t.Errorf("none %d: First(%d) %d", i, in, n)
				}
			}
		}
	}
}

// deadOf answers the numbers of those that one ahead of them covers, by what covers tells of two numbers.
func deadOf(n int, covers func(i, j int) bool) []int {
	var list []int
	for j := range n {
		for i := range j {
			if covers(i, j) {
				list = append(list, j)
				break
			}
		}
	}
	return list
}

// dead tells of rules that do not tell that as dead.
func dead(t *testing.T, what string, r *rule.Rules, want ...int) {
	t.Helper()
	if got := r.Dead(); !slices.Equal(got, want) {
		t.Fatalf("Dead of %s: %v, not %v", what, got, want)
	}
}

func TestP194Dead(t *testing.T) {
	most, _ := full()
	for what, x := range map[string]struct {
		l    []api.Match
		want []int
	}{
		"one":                         {[]api.Match{{}}, nil},
		"two of one":                  {[]api.Match{most, most}, []int{1}},
		"three of one":                {[]api.Match{most, most, most}, []int{1, 2}},
		"all, then others":            {[]api.Match{{}, most, proto(6), {}}, []int{1, 2, 3}},
		"others, then all":            {[]api.Match{most, proto(6), {}}, nil},
		"all ports, then all":         {[]api.Match{in(0, 255), {}}, []int{1}},
		"all ports but one, then all": {[]api.Match{in(0, 254), {}, in(255, 255)}, []int{2}},
		"one behind one that is dead": {[]api.Match{in(0, 9), in(1, 8), in(2, 7)}, []int{1, 2}},
		"not side by side":            {[]api.Match{in(0, 9), proto(6), in(10, 255), in(4, 4)}, []int{3}},
		"the narrower one first":      {[]api.Match{in(1, 8), in(0, 9)}, nil},
		"the other address":           {[]api.Match{src(read("0.0.0.0/0")), dst(read("10.0.0.0/8")), dst(read("::/0"))}, []int{1}},
		"all ports of TCP":            {[]api.Match{dstPort(6, 0, 65535), proto(6), proto(17), srcPort(6, 5, 5)}, []int{1, 3}},
	} {
		dead(t, what, compiled(t, x.l...), x.want...)
	}
}

// What several ahead of it cover together is not dead: of these none covers it by itself.
func TestP194NotTogether(t *testing.T) {
	for what, l := range map[string][]api.Match{
		"two spans":     {in(0, 100), in(101, 255), {}},
		"two that meet": {in(0, 200), in(100, 255), in(50, 220)},
		"both kinds":    {src(read("0.0.0.0/0")), dst(read("::/0")), {}},
		"two halves":    {src(read("10.0.0.0/9")), src(read("10.128.0.0/9")), src(read("10.0.0.0/8"))},
		"spans of them": {dstPort(6, 0, 1023), dstPort(6, 1024, 65535), proto(6)},
	} {
		dead(t, what, compiled(t, l...))
	}
	var list []api.Match
	for i := range 255 {
		list = append(list, proto(uint8(i)))
	}
	dead(t, "all protocols but one", compiled(t, append(list, api.Match{})...))
}

// Lists of the small world's matches, held against the packets that meet these.
func TestP194OfTheSmallWorld(t *testing.T) {
	w := small()
	r := rand.New(rand.NewSource(1941))
	some := 0
	for _, n := range append(sizes(), 10, 20, 30, 40, 50) {
		for range 10 {
			var list []api.Match
			var at []int
			for range n {
				at = append(at, r.Intn(len(w.matches)))
				list = append(list, w.matches[at[len(at)-1]])
			}
			want := deadOf(n, func(i, j int) bool { return w.met[at[j]].within(w.met[at[i]]) })
			dead(t, fmt.Sprint(n, " matches"), compiled(t, list...), want...)
			some += len(want)
		}
	}
	if some < 1000 {
		t.Errorf("only %d were dead", some)
	}
}

func TestP194OfDrawn(t *testing.T) {
	r := rand.New(rand.NewSource(1942))
	some := 0
	for range 60 {
		list := drawnList(r, 1+r.Intn(40))
		want := deadOf(len(list), func(i, j int) bool {
			_, less := found(list[i], list[j], false)
			return !less
		})
		dead(t, "drawn matches", compiled(t, list...), want...)
		some += len(want)
	}
	if some < 100 {
		t.Errorf("only %d were dead", some)
	}
}

// The most that can be: all 256 but the first one; and none of so many.
func TestP194Most(t *testing.T) {
	var want []int
	for i := range 255 {
		want = append(want, i+1)
	}
	dead(t, "256 of one", compiled(t, slices.Repeat([]api.Match{proto(6)}, 256)...), want...)
	var list []api.Match
	for i := range 256 {
		list = append(list, in(255-i, 255))
	}
	dead(t, "wider and wider ones", compiled(t, list...))
	slices.Reverse(list)
	dead(t, "narrower and narrower ones", compiled(t, list...), want...)
}

// What was answered is nobody else's, nor is the room behind it.
func TestP194NewMemory(t *testing.T) {
	r := compiled(t, api.Match{}, proto(6), proto(17), in(3, 9))
	a, b := r.Dead(), r.Dead()
	for i := range a[:cap(a)] {
		a[:cap(a)][i] = 77
	}
	if !slices.Equal(b, []int{1, 2, 3}) || !slices.Equal(r.Dead(), b) {
		t.Errorf("what was answered is shared: %v, %v", b, r.Dead())
	}
}

func TestP194None(t *testing.T) {
	for i, r := range nones(t) {
		if l := r.Dead(); len(l) > 0 {
			t.Errorf("none %d: Dead %v", i, l)
		}
	}
}
