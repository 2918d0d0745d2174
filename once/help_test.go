package once

import (
	"errors"
	"slices"
	"testing"
	"time"

	"patchbay/api"
	"patchbay/plays"
)

// way is a make, and what each Get is to answer then.
type way struct {
	name string
	make func() (int, api.Errno)
	want answer
}

// answer is what a Get answers.
type answer struct {
	v int
	e api.Errno
}

// answers is what a call answers, as one.
func answers(v int, e api.Errno) answer {
	return answer{v, e}
}

// giving is a make that answers.
func giving(v int, e api.Errno) func() (int, api.Errno) {
	return func() (int, api.Errno) { return v, e }
}

// panicking is a make that panics.
func panicking(with any) func() (int, api.Errno) {
	return func() (int, api.Errno) { panic(with) }
}

// A value, a refusal, a panic: one for each state behind make's end.
func valued() way   { return way{"a value", giving(7, api.OK), answer{7, api.OK}} }
func refusing() way { return way{"a refusal", giving(3, api.ErrArg), answer{0, api.ErrArg}} }
func breaking() way { return way{"a panic", panicking("no"), answer{0, api.ErrBroken}} }

// threeWays are these.
func threeWays() []way {
	return []way{valued(), refusing(), breaking()}
}

// allWays are those, and more.
func allWays() []way {
	gone := answer{0, api.ErrBroken}
	var none map[int]int
	var list []int
	return append(threeWays(),
		way{"the value 0", giving(0, api.OK), answer{0, api.OK}},
		way{"a value below 0", giving(-1, api.OK), answer{-1, api.OK}},
		way{"ErrNil", giving(3, api.ErrNil), answer{0, api.ErrNil}},
		way{"ErrRange", giving(0, api.ErrRange), answer{0, api.ErrRange}},
		way{"ErrBroken, without a panic", giving(5, api.ErrBroken), gone},
		way{"a number below 0", giving(3, -1), answer{0, -1}},
		way{"the least number", giving(3, -1<<63), answer{0, -1 << 63}},
		way{"a great number", giving(3, 1<<63-1), answer{0, 1<<63 - 1}},
		way{"a panic with nil", panicking(nil), gone},
		way{"a panic with an error", panicking(errors.New("no")), gone},
		way{"a panic with OK", panicking(api.OK), gone},
		way{"a panic with ErrArg", panicking(api.ErrArg), gone},
		way{"a panic with a list", panicking([]int{1}), gone},
		way{"a place that is none", func() (int, api.Errno) { return list[3], api.OK }, gone},
		way{"a map that is none", func() (int, api.Errno) { none[1] = 2; return 7, api.OK }, gone},
		way{"a panic behind a panic", func() (int, api.Errno) {
			defer func() { panic("again") }()
			panic("no")
		}, gone},
		way{"a panic behind an answer", func() (int, api.Errno) {
			defer func() { panic("no") }()
			return 7, api.OK
		}, gone},
		way{"a panic that make recovers", func() (v int, e api.Errno) {
			defer func() { recover(); v = 8 }()
			panic("no")
		}, answer{8, api.OK}},
	)
}

// counted is the way's make, which counts how often it is called.
func (w way) counted(calls *int) func() (int, api.Errno) {
	return func() (int, api.Errno) {
		*calls++
		return w.make()
	}
}

// gate is a gate that does what it is.
type gate func(m api.Mark)

func (g gate) Step(m api.Mark) { g(m) }

// at answers the marks of operations of that word.
func at(word int, ops ...api.OpKind) []api.Mark {
	var marks []api.Mark
	for _, op := range ops {
		marks = append(marks, api.Mark{Op: op, Word: word})
	}
	return marks
}

// tells ends in an error, if a call tells its gate of other operations than these.
func tells(t *testing.T, name string, call func(g api.Gate), want ...api.Mark) {
	t.Helper()
	if got := plays.Told(call); !slices.Equal(got, want) {
		t.Errorf("%s tells %v, not %v", name, got, want)
	}
}

// gets ends in an error, if what was answered is another answer.
func gets(t *testing.T, name string, got, want answer) {
	t.Helper()
	if got != want {
		t.Errorf("%s: %v, not %v", name, got, want)
	}
}

// ends ends the test, if the body does not end.
func ends(t *testing.T, name string, body func()) {
	t.Helper()
	ended := make(chan struct{})
	go func() {
		defer close(ended)
		body()
	}()
	select {
	case <-ended:
	case <-time.After(20 * time.Second):
		t.Fatalf("%s: it does not end", name)
	}
}
