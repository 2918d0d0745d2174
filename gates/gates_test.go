package gates

import (
	"slices"
	"testing"

	"patchbay/api"
	"patchbay/turn"
)

func TestTell(t *testing.T) {
	n := turn.NewNotes()
	want := []api.Mark{{Op: api.OpLoad, Word: 0}, {Op: api.OpCAS, Word: 7}, {Op: api.OpStore, Word: 1 << 40}}
	for _, m := range want {
		Tell(n, m.Op, m.Word)
	}
	if got := n.Marks(); !slices.Equal(got, want) {
		t.Errorf("%v, not %v", got, want)
	}
}

func TestTellNobody(t *testing.T) {
	Tell(nil, api.OpLoad, 0)
	Tell((*turn.Notes)(nil), api.OpLoad, 0)
}
