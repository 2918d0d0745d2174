package bucket_test

import (
	"math/big"
	"math/rand"
	"slices"
	"sort"
	"testing"

	"patchbay/api"
	"patchbay/bucket"
)

const top = 1<<64 - 1

// ask is a tick, and how many tokens.
type ask = [2]uint64

// of answers a bucket.
func of(num, den, burst uint64) api.Bucket {
	return api.Bucket{Num: num, Den: den, Burst: burst}
}

// slow is the bucket of the chapter's examples: a token each 10 ticks, three at a time.
func slow() api.Bucket { return of(1, 10, 3) }

// buckets are some of the least and of the greatest numbers, and some between.
func buckets() []api.Bucket {
	return []api.Bucket{
		slow(), of(3, 1, 1), of(3, 7, 4), of(7, 3, 5), of(1, 1, 1), of(1, 1, api.MaxBurst), of(1, api.MaxRate, 1), of(api.MaxRate, 1, 1),
		of(api.MaxRate, api.MaxRate, 1), of(1, api.MaxRate, api.MaxBurst), of(api.MaxRate, 1, api.MaxBurst), of(api.MaxRate, api.MaxRate, api.MaxBurst),
		of(api.MaxRate-1, api.MaxRate, api.MaxBurst-1), of(api.MaxRate, api.MaxRate-1, 2), of(40961, 12289, 77777),
	}
}

// smallOnes are all buckets of small numbers.
func smallOnes() []api.Bucket {
	var list []api.Bucket
	for num := uint64(1); num <= 4; num++ {
		for den := uint64(1); den <= 4; den++ {
			for burst := uint64(1); burst <= 3; burst++ {
				list = append(list, of(num, den, burst))
			}
		}
	}
	return list
}

// about answers these numbers, and those beside them, that are from least to most, each once.
func about(least, most uint64, numbers ...uint64) []uint64 {
	var list []uint64
	for _, v := range numbers {
		for _, x := range []uint64{v - 1, v, v + 1} {
			if x >= least && x <= most {
				list = append(list, x)
			}
		}
	}
	slices.Sort(list)
	return slices.Compact(list)
}

// ticks are the least ones, the greatest ones, and some between.
func ticks() []uint64 {
	return about(0, api.MaxTick, 0, 7, 1<<16, 1<<32, 1<<39+5, api.MaxTick)
}

// tokens are numbers about those at which something changes in the bucket: its burst; what goes round in one word, when each token is so many units.
func tokens(b api.Bucket) []uint64 {
	return about(0, top, 0, 3, b.Burst/2, b.Burst, 2*b.Burst, api.MaxBurst, 1<<32, 1<<48, 1<<60, 1<<63, top, top/b.Den, top/b.Den+b.Burst, top-b.Burst)
}

// states are numbers about those at which something changes, when so many tokens are asked for at the tick.
func states(b api.Bucket, now, n uint64) []uint64 {
	in, full, units := now*b.Num, b.Burst*b.Den, n*b.Den
	return about(0, top, 0, in, in+full, in+full-units, in+units, full-units, 1<<32, 1<<63, top, top-in, top-full, top-units)
}

// pow2 are the powers of two, and numbers beside them.
func pow2() []uint64 {
	list := []uint64{0, top}
	for k := range 64 {
		list = append(list, 1<<k)
	}
	return about(0, top, list...)
}

// sum, times and less reckon with numbers that never go round.
func sum(list ...*big.Int) *big.Int {
	all := new(big.Int)
	for _, v := range list {
		all.Add(all, v)
	}
	return all
}

func number(v uint64) *big.Int    { return new(big.Int).SetUint64(v) }
func times(a, b uint64) *big.Int  { return new(big.Int).Mul(number(a), number(b)) }
func less(a, b *big.Int) *big.Int { return new(big.Int).Sub(a, b) }
func atMost(a, b *big.Int) bool   { return a.Cmp(b) <= 0 }
func greater(a, b *big.Int) bool  { return a.Cmp(b) > 0 }

// moment answers where the state stands at the tick, and how far ahead that is, as the chapter says it.
func moment(b api.Bucket, state, now uint64) (*big.Int, *big.Int) {
	in := times(now, b.Num)
	t := number(state)
	if greater(in, t) {
		t = in
	}
	return t, less(t, in)
}

// takeSays answers what Take answers of what may be, as the chapter says it.
func takeSays(b api.Bucket, state, now, n uint64) (uint64, bool) {
	t, ahead := moment(b, state, now)
	units := times(n, b.Den)
	if !atMost(sum(ahead, units), times(b.Burst, b.Den)) {
		return state, false
	}
	return sum(t, units).Uint64(), true
}

// levelSays answers the greatest number that takeSays lets through. More than Burst it never does, and where it does not, of more it does not either.
func levelSays(b api.Bucket, state, now uint64) uint64 {
	refused := func(n int) bool {
		_, ok := takeSays(b, state, now, uint64(n))
		return !ok
	}
	return uint64(max(sort.Search(int(b.Burst)+1, refused)-1, 0))
}

// whenSays answers the first tick from now on at which takeSays lets them through. Where it does, it does later on, too.
func whenSays(b api.Bucket, state, now, n uint64) (uint64, bool) {
	through := func(d int) bool {
		_, ok := takeSays(b, state, now+uint64(d), n)
		return ok
	}
	all := int(api.MaxTick - now + 1)
	if d := sort.Search(all, through); d < all {
		return now + uint64(d), true
	}
	return 0, false
}

// mostSays answers what Most answers of what may be, as the chapter says it.
func mostSays(b api.Bucket, ticks uint64) *big.Int {
	in := times(ticks, b.Num)
	return sum(number(b.Burst), in.Div(in, number(b.Den)))
}

// within answers how many tokens passed at the ticks of a stretch.
func within(passed []ask, first, last uint64) *big.Int {
	all := new(big.Int)
	for _, x := range passed {
		if x[0] >= first && x[0] <= last {
			all.Add(all, number(x[1]))
		}
	}
	return all
}

// tooFull tells whether a stretch is too full. Those that begin or end where nothing passed have no more tokens than shorter ones.
func tooFull(b api.Bucket, passed []ask) bool {
	for _, x := range passed {
		if endsTooFull(b, passed, x[0]) {
			return true
		}
	}
	return false
}

// endsTooFull tells whether a stretch that ends at that tick is too full.
func endsTooFull(b api.Bucket, passed []ask, last uint64) bool {
	for _, x := range passed {
		if x[0] <= last && greater(within(passed, x[0], last), mostSays(b, last-x[0])) {
			return true
		}
	}
	return false
}

// fitsSays answers what Fits answers of what may be, as the chapter says it.
func fitsSays(b api.Bucket, passed []ask) int {
	for i := range passed {
		if tooFull(b, passed[:i+1]) {
			return i
		}
	}
	return len(passed)
}

// rows tells all rows of so many asks that are among these. What it tells is to be copied by whoever keeps it.
func rows(n int, among []ask, tell func(row []ask)) {
	row := make([]ask, n)
	var from func(i int)
	from = func(i int) {
		if i == n {
			tell(row)
			return
		}
		for _, x := range among {
			row[i] = x
			from(i + 1)
		}
	}
	from(0)
}

// each answers all asks of these numbers of tokens at these ticks.
func each(ticks, tokens []uint64) []ask {
	var list []ask
	for _, tick := range ticks {
		for _, n := range tokens {
			list = append(list, ask{tick, n})
		}
	}
	return list
}

// drawn answers a row of so many asks, at ticks below and of tokens below.
func drawn(r *rand.Rand, n int, tick, tokens int64) []ask {
	var row []ask
	for range n {
		row = append(row, ask{uint64(r.Int63n(tick)), uint64(r.Int63n(tokens))})
	}
	return row
}

// byTick answers them by rising ticks.
func byTick(row []ask) []ask {
	row = slices.Clone(row)
	slices.SortStableFunc(row, func(a, b ask) int { return number(a[0]).Cmp(number(b[0])) })
	return row
}

// takes answers what was let through of a row that is taken one behind the other from the state on, and the state behind it.
func takes(t *testing.T, b api.Bucket, state uint64, row []ask) ([]ask, uint64) {
	t.Helper()
	var passed []ask
	for _, x := range row {
		next, ok, e := bucket.Take(b, state, x[0], x[1])
		if e != api.OK || next < state || !ok && next != state {
			t.Fatalf("Take(%v, %d, %v): %d, %v, %v", b, state, x, next, ok, e)
		}
		if ok {
			passed = append(passed, x)
		}
		state = next
	}
	return passed, state
}

// few answers the first ones of a list: they are enough to be told of.
func few[T any](list []T) []T { return list[:min(len(list), 40)] }

// takeIs, levelIs, whenIs, mostIs, runIs and fitsIs end in an error, if the call answers otherwise.
func takeIs(t *testing.T, b api.Bucket, state, now, n, want uint64, ok bool, wrong api.Errno) {
	t.Helper()
	if next, is, e := bucket.Take(b, state, now, n); next != want || is != ok || e != wrong {
		t.Errorf("Take(%v, %d, %d, %d): %d, %v, %v, not %d, %v, %v", b, state, now, n, next, is, e, want, ok, wrong)
	}
}

func levelIs(t *testing.T, b api.Bucket, state, now, want uint64, wrong api.Errno) {
	t.Helper()
	if n, e := bucket.Level(b, state, now); n != want || e != wrong {
		t.Errorf("Level(%v, %d, %d): %d, %v, not %d, %v", b, state, now, n, e, want, wrong)
	}
}

func whenIs(t *testing.T, b api.Bucket, state, now, n, want uint64, ok bool, wrong api.Errno) {
	t.Helper()
	if tick, is, e := bucket.When(b, state, now, n); tick != want || is != ok || e != wrong {
		t.Errorf("When(%v, %d, %d, %d): %d, %v, %v, not %d, %v, %v", b, state, now, n, tick, is, e, want, ok, wrong)
	}
}

func mostIs(t *testing.T, b api.Bucket, ticks, want uint64, wrong api.Errno) {
	t.Helper()
	if n, e := bucket.Most(b, ticks); n != want || e != wrong {
		t.Errorf("Most(%v, %d): %d, %v, not %d, %v", b, ticks, n, e, want, wrong)
	}
}

func runIs(t *testing.T, b api.Bucket, asks []ask, want []bool, wrong api.Errno) {
	t.Helper()
	if let, e := bucket.Run(b, asks...); !slices.Equal(let, want) || e != wrong {
		t.Errorf("Run(%v, %v): %v, %v, not %v, %v", b, few(asks), few(let), e, few(want), wrong)
	}
}

func fitsIs(t *testing.T, b api.Bucket, passed []ask, want int, wrong api.Errno) {
	t.Helper()
	if place, e := bucket.Fits(b, passed...); place != want || e != wrong {
		t.Errorf("Fits(%v, %v): %d, %v, not %d, %v", b, few(passed), place, e, want, wrong)
	}
}
