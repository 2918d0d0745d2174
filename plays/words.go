package plays

import "patchbay/gates"

// WordsOf answers the words of an object as they stand.
func WordsOf(w gates.Words) []uint64 {
	var list []uint64
	for i := range w {
		list = append(list, w.Load(nil, i))
	}
	return list
}

// SetWords makes the words of an object, from the first one on, those.
func SetWords(w gates.Words, list []uint64) {
	for i, v := range list {
		w.Store(nil, i, v)
	}
}
