package hold

import (
	"cmp"
	"slices"
	"sync"
)

// shelf is what was swapped out and is not freed yet.
type shelf[T any] struct {
	mutex sync.Mutex // about the list alone: no gate is told and no operation done meanwhile, so who is held up there holds up nobody
	list  []kept[T]  // rising by their versions
}

// kept is an entry, and the epoch when it had been swapped out.
type kept[T any] struct {
	*entry[T]
	epoch uint64
}

// keep lays an entry on the shelf.
func (s *shelf[T]) keep(was *entry[T], epoch uint64) {
	s.mutex.Lock()
	defer s.mutex.Unlock()
	// Not always at its end: who swapped out a later one may be here earlier.
	at, _ := s.find(was.version)
	s.list = slices.Insert(s.list, at, kept[T]{was, epoch})
}

// free takes off the shelf what nobody can hold any more in that epoch, and answers the versions, rising.
func (s *shelf[T]) free(epoch uint64) []uint64 {
	s.mutex.Lock()
	defer s.mutex.Unlock()
	safe := func(k kept[T]) bool { return k.epoch+2 <= epoch }
	var freed []uint64
	for _, k := range s.list {
		if safe(k) {
			freed = append(freed, k.version)
		}
	}
	s.list = slices.DeleteFunc(s.list, safe)
	return freed
}

// versions answers those of all that lies there, rising.
func (s *shelf[T]) versions() []uint64 {
	s.mutex.Lock()
	defer s.mutex.Unlock()
	var list []uint64
	for _, k := range s.list {
		list = append(list, k.version)
	}
	return list
}

// value answers that of a version, and whether it lies there.
func (s *shelf[T]) value(version uint64) (T, bool) {
	s.mutex.Lock()
	defer s.mutex.Unlock()
	at, ok := s.find(version)
	if !ok {
		var v T
		return v, false
	}
	return s.list[at].value, true
}

// find answers where a version lies, or would lie, and whether it does.
func (s *shelf[T]) find(version uint64) (int, bool) {
	return slices.BinarySearchFunc(s.list, version, func(k kept[T], version uint64) int {
		return cmp.Compare(k.version, version)
	})
}
