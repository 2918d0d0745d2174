package hold_test

import (
	"slices"
	"testing"

	"patchbay/api"
	"patchbay/hold"
	"patchbay/plays"
)

const top = 1<<64 - 1

// texts is a hold of texts.
type texts = hold.Hold[string]

// answer is what a call answers: a value, a version; of a Try whether it has published, of an Old whether there is one; versions.
type answer struct {
	value   string
	version uint64
	ok      bool
	list    []uint64
	e       api.Errno
}

// same tells whether two answers are alike.
func same(a, b answer) bool {
	return a.value == b.value && a.version == b.version && a.ok == b.ok && slices.Equal(a.list, b.list) && a.e == b.e
}

// shown, did, none, tried, known, versions and refused are such answers: a value and its version; a new version; nothing; a new version, and true; a value, and true; versions; an error.
func shown(v string, n uint64) answer { return answer{value: v, version: n} }
func did(n uint64) answer             { return answer{version: n} }
func none() answer                    { return answer{} }
func tried(n uint64) answer           { return answer{version: n, ok: true} }
func known(v string) answer           { return answer{value: v, ok: true} }
func versions(list ...uint64) answer  { return answer{list: list} }
func refused(e api.Errno) answer      { return answer{e: e} }

// The calls.
const (
	doNow = iota
	doEnter
	doLeave
	doPut
	doTry
	doFree
	doKept
	doOld
)

// ask is a call: of an Enter and a Leave the slot, of a Try and an Old the version, of a Put and a Try the value.
type ask struct {
	call    int
	slot    int
	version uint64
	value   string
}

func now() ask                   { return ask{call: doNow} }
func enter(slot int) ask         { return ask{call: doEnter, slot: slot} }
func leave(slot int) ask         { return ask{call: doLeave, slot: slot} }
func put(v string) ask           { return ask{call: doPut, value: v} }
func try(n uint64, v string) ask { return ask{call: doTry, version: n, value: v} }
func free() ask                  { return ask{call: doFree} }
func kept() ask                  { return ask{call: doKept} }
func old(n uint64) ask           { return ask{call: doOld, version: n} }

// one, in, stay and frees are the calls of one thread, one after the other: these; an Enter, and a Leave at once, or behind so many more operations; so many Frees.
func one(asks ...ask) []ask { return asks }
func in(slot int) []ask     { return []ask{enter(slot), leave(slot)} }
func frees(n int) []ask     { return slices.Repeat(one(free()), n) }
func stay(slot, n int) []ask {
	return slices.Concat(one(enter(slot)), slices.Repeat(one(now()), n), one(leave(slot)))
}

// object is a hold, or the twin of one.
type object interface {
	Now(g api.Gate) (string, uint64, api.Errno)
	Enter(g api.Gate, slot int) (string, uint64, api.Errno)
	Leave(g api.Gate, slot int) api.Errno
	Put(g api.Gate, v string) (uint64, api.Errno)
	Try(g api.Gate, version uint64, v string) (uint64, bool, api.Errno)
	Free(g api.Gate) ([]uint64, api.Errno)
	Kept() []uint64
	Old(version uint64) (string, bool)
}

// of asks an object.
func (a ask) of(o object, g api.Gate) (x answer) {
	switch a.call {
	case doNow:
		x.value, x.version, x.e = o.Now(g)
	case doEnter:
		x.value, x.version, x.e = o.Enter(g, a.slot)
	case doLeave:
		x.e = o.Leave(g, a.slot)
	case doPut:
		x.version, x.e = o.Put(g, a.value)
	case doTry:
		x.version, x.ok, x.e = o.Try(g, a.version, a.value)
	case doFree:
		x.list, x.e = o.Free(g)
	case doKept:
		x.list = o.Kept()
	case doOld:
		x.value, x.ok = o.Old(a.version)
	}
	return x
}

// is ends in an error, if an object answers otherwise.
func is(t *testing.T, name string, o object, g api.Gate, a ask, want answer) {
	t.Helper()
	if got := a.of(o, g); !same(got, want) {
		t.Errorf("%s: %v: %v, not %v", name, a, got, want)
	}
}

// tells ends in an error, if a hold of so many slots answers otherwise, or tells its gate of other operations.
func tells(t *testing.T, name string, h *texts, a ask, want answer, marks ...api.Mark) {
	t.Helper()
	plays.Tells(t, name, asked{Of: asking(h), Same: same}, a, want, marks...)
}

// load, store and cas are the marks of operations of that word.
var load, store, cas = plays.Load, plays.Store, plays.CAS

// enterSteps and leaveSteps are the operations of an Enter that meets nobody, and of a Leave; putSteps are those of a Put, or a Try, that does not begin anew.
func enterSteps(slot int) []api.Mark {
	return []api.Mark{load(1 + slot), load(0), store(1 + slot), load(0), load(0)}
}

func leaveSteps(slot int) []api.Mark {
	return []api.Mark{load(1 + slot), store(1 + slot)}
}

func putSteps() []api.Mark {
	return []api.Mark{load(0), cas(0), load(0)}
}

// freeSteps are the operations of a Free that is not hindered, over so many slots; hinderedSteps are those of one that is, by that slot.
func freeSteps(n int) []api.Mark {
	marks := []api.Mark{load(0)}
	for slot := range n {
		marks = append(marks, load(1+slot))
	}
	return append(marks, cas(0), load(0))
}

func hinderedSteps(slot int) []api.Mark {
	return append(freeSteps(slot + 1)[:slot+2], load(0))
}

// made answers a hold of so many slots that publishes that, and ends the test where there is none.
func made[T any](t *testing.T, v T, slots int) *hold.Hold[T] {
	t.Helper()
	h, e := hold.New(v, slots)
	if h == nil || e != api.OK {
		t.Fatalf("New(%v, %d): %v, %v", v, slots, h, e)
	}
	return h
}

// start is how a hold begins: how many slots it has, and what was asked of it; the first value is "a".
type start struct {
	n     int
	ahead []ask
}

func from(n int, ahead ...ask) start { return start{n, ahead} }

// hold answers a hold that begins so.
func (x start) hold(t *testing.T) *texts {
	t.Helper()
	h := made(t, "a", x.n)
	for _, a := range x.ahead {
		if got := a.of(h, nil); got.e != api.OK {
			t.Fatalf("the start %v: %v: %v", x, a, got)
		}
	}
	return h
}

// look answers how an object stands that nobody uses, as far as its calls tell it: what is published, what is kept, who is in, and in which of the Frees that come now what is freed, and by whom they are hindered. Behind it nobody is in, and nothing is kept.
func look(o object, slots int) []uint64 {
	v, n, _ := o.Now(nil)
	words := append(letters(v), n)
	list := o.Kept()
	words = append(words, uint64(len(list)))
	for _, n := range list {
		v, _ := o.Old(n)
		words = append(append(words, n), letters(v)...)
	}
	in := 0
	for slot := range slots {
		if _, _, e := o.Enter(nil, slot); e != api.OK {
			in++
			words = append(words, 1)
			continue
		}
		o.Leave(nil, slot)
		words = append(words, 0)
	}
	// Two for each who is in: they may be in of the epoch, and hinder the second one alone.
	for i := 0; i < 2*slots+3 && (in > 0 || len(o.Kept()) > 0); i++ {
		var freed []uint64
		marks := plays.Told(func(g api.Gate) { freed, _ = o.Free(g) })
		by := hinders(marks)
		if by > 0 {
			o.Leave(nil, by-1)
			in--
		}
		words = append(append(words, uint64(by), uint64(len(freed))), freed...)
	}
	return words
}

// hinders answers the word of the slot by which a Free with these operations was hindered; 0: by none.
func hinders(marks []api.Mark) int {
	if len(marks) < 2 {
		return 0
	}
	return marks[len(marks)-2].Word
}

// letters answers a text as words, the last of which is how long it is.
func letters(v string) []uint64 {
	var words []uint64
	for _, b := range []byte(v) {
		words = append(words, uint64(b))
	}
	return append(words, uint64(len(v)))
}

// stands ends in an error, unless what is published is that, and just these are kept.
func stands(t *testing.T, name string, o object, v string, n uint64, list ...uint64) {
	t.Helper()
	is(t, name, o, nil, now(), shown(v, n))
	is(t, name, o, nil, kept(), versions(list...))
	is(t, name, o, nil, old(n), known(v))
	for m := range n + 3 {
		if _, ok := o.Old(m); ok != (m == n || slices.Contains(list, m)) {
			t.Errorf("%s: Old(%d): %v, though %d is published, and %v are kept", name, m, ok, n, list)
		}
	}
}
