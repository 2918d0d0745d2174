package turn

import (
	"slices"
	"testing"

	"patchbay/api"
)

func TestP25NotesTellWhatTheyWereTold(t *testing.T) {
	n := NewNotes()
	if got := n.Marks(); len(got) != 0 {
		t.Errorf("at first: %v", got)
	}
	var want []api.Mark
	for i := range 300 {
		m := api.Mark{Op: api.OpKind(i), Word: i*7 - 9}
		if i == 5 {
			m = api.Mark{}
		}
		n.Step(m)
		want = append(want, m)
		if got := n.Marks(); !slices.Equal(got, want) {
			t.Fatalf("behind %d steps: %v", i+1, got)
		}
	}
	if got := NewNotes().Marks(); len(got) != 0 {
		t.Errorf("others share: %v", got)
	}
}

func TestP25NotesAreAGate(t *testing.T) {
	n := NewNotes()
	stepping(4, 2, 4)(n)
	if got := n.Marks(); !slices.Equal(got, []api.Mark{at(4), at(2), at(4)}) {
		t.Errorf("%v", got)
	}
}

func TestP25MarksAreNew(t *testing.T) {
	n := NewNotes()
	stepping(1, 2)(n)
	a := n.Marks()
	a[0] = at(9)
	_ = append(a[:1], at(9))
	n.Step(at(3))
	b := n.Marks()
	_ = append(b, at(9))
	n.Step(at(4))
	if got := n.Marks(); !slices.Equal(got, []api.Mark{at(1), at(2), at(3), at(4)}) || a[0] != at(9) || len(b) != 3 {
		t.Errorf("answers share: %v, %v, %v", a, b, got)
	}
}

func TestP25NotesThatAreNone(t *testing.T) {
	made := NewNotes()
	made.Step(at(1))
	other := *made
	for _, x := range []struct {
		name string
		n    *Notes
	}{{"nil", nil}, {"a zero value", &Notes{}}, {"new", new(Notes)}, {"a copy", &other}} {
		x.n.Step(at(2))
		var g api.Gate = x.n
		g.Step(at(3))
		if got := x.n.Marks(); got != nil {
			t.Errorf("%s: %v", x.name, got)
		}
	}
	made.Step(at(4))
	if got := made.Marks(); !slices.Equal(got, []api.Mark{at(1), at(4)}) {
		t.Errorf("the one that was made: %v", got)
	}
}
