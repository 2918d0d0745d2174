package plays

import (
	"slices"
	"testing"

	"patchbay/gates"
)

func TestWords(t *testing.T) {
	w := make(gates.Words, 3)
	if got := WordsOf(w); !slices.Equal(got, []uint64{0, 0, 0}) {
		t.Errorf("at first %v", got)
	}
	list := []uint64{7, 0, 1<<64 - 1}
	SetWords(w, list)
	got := WordsOf(w)
	if !slices.Equal(got, list) {
		t.Errorf("%v, not %v", got, list)
	}
	SetWords(w, []uint64{5, 6})
	list[2] = 9
	if want := []uint64{5, 6, 1<<64 - 1}; !slices.Equal(WordsOf(w), want) || got[0] != 7 {
		t.Errorf("%v, not %v; those ahead of it: %v", WordsOf(w), want, got)
	}
	SetWords(w, nil)
	if got := WordsOf(w)[0]; got != 5 {
		t.Errorf("the first one is %d", got)
	}
	if got := WordsOf(nil); len(got) != 0 {
		t.Errorf("of none: %v", got)
	}
}
