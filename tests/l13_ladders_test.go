package tests

import (
	"fmt"
	"math"
	"math/big"
	"math/rand/v2"
	"slices"
	"testing"

	"loop.example/g01019/impl"
)

const (
	mostRungs    = 8
	fullStrength = 1000
)

// badThousandths are neither a Low nor a High; with some of them differences wrap around.
var badThousandths = []int{-1, -2, -500, -1000, fullStrength + 1, fullStrength + 2, 2000, 1 << 32, 1<<32 + 500, 1 << 60, 1 << 62, math.MaxInt, math.MaxInt - 1, math.MinInt, math.MinInt + 1}

var badRungNumbers = []int{0, -1, -2, -8, mostRungs + 1, mostRungs + 2, 16, 1000, 1 << 32, 1<<32 + 1, math.MaxInt, math.MaxInt - 1, math.MinInt, math.MinInt + 1}

func rung(low int, high int) impl.Rung { return impl.Rung{Low: low, High: high} }

// ladder returns Rungs of a Low and a High each.
func ladder(numbers ...int) []impl.Rung {
	list := []impl.Rung{}
	for i := 0; i < len(numbers); i += 2 {
		list = append(list, rung(numbers[i], numbers[i+1]))
	}
	return list
}

func sameRungs(n int, low int, high int) []impl.Rung {
	return slices.Repeat(ladder(low, high), n)
}

// handLadders are ladders with all that the chapter names.
var handLadders = [][]impl.Rung{
	ladder(0, 100, 50, 300), ladder(10, 200, 60, 250),
	// One Rung, and Lows and Highs at the limits or the same.
	ladder(0, 0), ladder(0, 1), ladder(0, 1000), ladder(1, 1), ladder(999, 1000), ladder(1000, 1000), ladder(500, 500), ladder(250, 750), ladder(1, 999), ladder(0, 999), ladder(1, 1000),
	// The most Rungs.
	sameRungs(8, 0, 0), sameRungs(8, 0, 1000), sameRungs(8, 1000, 1000), sameRungs(8, 333, 666), ladder(0, 0, 0, 0, 0, 0, 0, 0, 0, 0, 0, 0, 0, 0, 0, 1), ladder(0, 125, 125, 250, 250, 375, 375, 500, 500, 625, 625, 750, 750, 875, 875, 1000), ladder(0, 40, 10, 40, 20, 40, 30, 40, 30, 50, 30, 60, 30, 70, 30, 80),
	// Only the Lows become greater, only the Highs, both and neither.
	ladder(0, 500, 1, 500, 500, 500), ladder(100, 100, 100, 101, 100, 1000), ladder(0, 0, 1, 1, 2, 2), ladder(100, 300, 100, 300), ladder(0, 0, 1000, 1000), ladder(0, 1000, 1000, 1000), ladder(0, 0, 0, 1000), ladder(0, 0, 999, 1000, 1000, 1000),
	// With gaps, and without.
	ladder(0, 10, 20, 30, 40, 50, 60, 70), ladder(5, 9, 9, 9, 9, 14, 14, 200), ladder(35, 70, 71, 90, 250, 264, 265, 400), ladder(0, 999, 1, 1000),
	// Several Rungs that are equally wide.
	ladder(0, 5, 5, 9, 10, 15, 12, 15), ladder(0, 4, 1, 6, 3, 8, 3, 8, 7, 11), ladder(7, 8, 8, 9, 9, 11, 10, 12),
}

// randomLadder draws Lows and Highs near to each other or from everywhere, and puts both in order.
func randomLadder(r *rand.Rand, n int) []impl.Rung {
	width := []int{1, 3, 30, 300, 1001}[r.IntN(5)]
	start := r.IntN(fullStrength + 2 - width)
	lows, highs := make([]int, n), make([]int, n)
	for i := range n {
		a, b := start+r.IntN(width), start+r.IntN(width)
		lows[i], highs[i] = min(a, b), max(a, b)
	}
	slices.Sort(lows)
	slices.Sort(highs)
	list := []impl.Rung{}
	for i := range n {
		list = append(list, rung(lows[i], highs[i]))
	}
	return list
}

func goodLadders() [][]impl.Rung {
	lists := slices.Clone(handLadders)
	r := rand.New(rand.NewPCG(13, 1))
	for range 300 {
		lists = append(lists, randomLadder(r, 1+r.IntN(mostRungs)))
	}
	return lists
}

// noRungs have a Low or a High beyond its limit, or a Low that is greater than the High.
func noRungs() []impl.Rung {
	list := []impl.Rung{rung(1, 0), rung(1000, 999), rung(501, 500), rung(1000, 0), rung(-1, -1), rung(1001, 1001), rung(-1, 1001), rung(1001, -1), rung(math.MinInt, math.MaxInt), rung(math.MaxInt, math.MinInt), rung(math.MaxInt, math.MaxInt), rung(math.MinInt, math.MinInt)}
	for _, bad := range badThousandths {
		for _, good := range []int{0, 1, 500, 1000} {
			list = append(list, rung(bad, good), rung(good, bad))
		}
	}
	return list
}

// fallingLadders have valid Rungs, of which a Low or a High becomes smaller.
var fallingLadders = [][]impl.Rung{
	ladder(5, 9, 4, 9), ladder(5, 9, 5, 8), ladder(5, 9, 4, 8), ladder(5, 9, 4, 10), ladder(5, 9, 6, 8), ladder(1, 1000, 0, 1000), ladder(0, 1000, 0, 999), ladder(1000, 1000, 0, 1000), ladder(1000, 1000, 0, 0), ladder(1, 1, 0, 0),
	ladder(0, 100, 50, 300, 49, 300), ladder(0, 100, 50, 300, 50, 299), ladder(50, 300, 0, 300, 60, 300), ladder(50, 300, 50, 100, 60, 300), ladder(0, 10, 20, 30, 40, 50, 39, 70), ladder(0, 10, 20, 30, 40, 50, 60, 70, 80, 90, 100, 110, 120, 130, 119, 130), ladder(0, 10, 20, 30, 40, 50, 60, 70, 80, 90, 100, 110, 120, 130, 120, 129), ladder(0, 10, 0, 9, 20, 30, 40, 50, 60, 70, 80, 90, 100, 110, 120, 130), ladder(1, 10, 0, 20, 20, 30, 40, 50, 60, 70, 80, 90, 100, 110, 120, 130),
}

// badLadders are lists that are no ladder.
func badLadders() [][]impl.Rung {
	lists := slices.Concat([][]impl.Rung{nil, {}, sameRungs(9, 0, 0), sameRungs(9, 0, 1000), sameRungs(9, 50, 300), sameRungs(10, 1, 2), sameRungs(16, 0, 1000), sameRungs(1000, 5, 5)}, fallingLadders)
	for _, bad := range noRungs() {
		one := []impl.Rung{bad}
		lists = append(lists, one, append(ladder(0, 100, 0, 100), bad), append(one, ladder(50, 300, 1000, 1000)...), slices.Concat(ladder(0, 0), one, ladder(1000, 1000)), append(sameRungs(7, 0, 0), bad), append(one, sameRungs(7, 1000, 1000)...), []impl.Rung{bad, bad})
	}
	return lists
}

// guardedLadder returns the list as the start of a longer one, and what checks that neither changed.
func guardedLadder(t *testing.T, list []impl.Rung) ([]impl.Rung, func()) {
	backing := append(slices.Clone(list), rung(1000, 1000), rung(math.MinInt, math.MaxInt))
	before := slices.Clone(backing)
	return backing[:len(list)], func() {
		t.Helper()
		if !slices.Equal(backing, before) {
			t.Errorf("%v was changed to %v", before, backing)
		}
	}
}

// fewRungs returns the start of a list that may be long, for messages.
func fewRungs(list []impl.Rung) []impl.Rung { return list[:min(len(list), 10)] }

func wantLadder(t *testing.T, call string, got []impl.Rung, ok bool, want []impl.Rung, wantOK bool) {
	t.Helper()
	if !slices.Equal(got, want) || ok != wantOK {
		t.Errorf("%s: got %v, %v, want %v, %v", call, got, ok, want, wantOK)
	}
}

// standsBy is the rule itself.
func standsBy(b impl.Brine, r impl.Rung) bool {
	mass := massOf(b)
	return mass == 0 || 1000*b.Salt >= r.Low*mass && 1000*b.Salt <= r.High*mass
}

// standsExactly compares the strengths as fractions.
func standsExactly(b impl.Brine, r impl.Rung) bool {
	if massOf(b) == 0 {
		return true
	}
	strength := strengthOf(b)
	return strength.Cmp(big.NewRat(int64(r.Low), 1000)) >= 0 && strength.Cmp(big.NewRat(int64(r.High), 1000)) <= 0
}

func rungsBy(list []impl.Rung, b impl.Brine) []int {
	indices := []int{}
	for i, r := range list {
		if standsBy(b, r) {
			indices = append(indices, i)
		}
	}
	return indices
}

func offBy(list []impl.Rung, series []impl.Basin) []int {
	off := upToIndex(len(series))
	return slices.DeleteFunc(off, func(i int) bool { return standsBy(series[i].Brine, list[i]) })
}

// roomBy tries all kilograms that may be added, from the most on.
func roomBy(r impl.Rung, b impl.Brine) (int, bool) {
	if massOf(b) == 0 || !standsBy(b, r) {
		return 0, false
	}
	more := impl.MaxWater - b.Water
	for !standsBy(brine(b.Water+more, b.Salt), r) {
		more--
	}
	return more, true
}

// sunBy tries all kilograms that may go, from the most on.
func sunBy(r impl.Rung, b impl.Brine) (int, bool) {
	if massOf(b) == 0 || !standsBy(b, r) {
		return 0, false
	}
	gone := b.Water
	for !standsBy(brine(b.Water-gone, b.Salt), r) {
		gone--
	}
	return gone, true
}

// joinBy looks for the thousandths that are on both Rungs.
func joinBy(a []impl.Rung, b []impl.Rung) ([]impl.Rung, bool) {
	if len(a) != len(b) {
		return nil, false
	}
	joined := []impl.Rung{}
	for i := range a {
		shared := []int{}
		for n := a[i].Low; n <= a[i].High; n++ {
			if n >= b[i].Low && n <= b[i].High {
				shared = append(shared, n)
			}
		}
		if len(shared) == 0 {
			return nil, false
		}
		joined = append(joined, rung(shared[0], shared[len(shared)-1]))
	}
	return joined, true
}

func widestBy(list []impl.Rung) int {
	widest, width := 0, -1
	for i := len(list) - 1; i >= 0; i-- {
		if list[i].High-list[i].Low >= width {
			widest, width = i, list[i].High-list[i].Low
		}
	}
	return widest
}

// evenBy looks for the greatest thousandths that are not beyond the ends of the Rungs.
func evenBy(n int, low int, high int) []impl.Rung {
	end := func(i int) int {
		thousandths := low
		for (thousandths+1-low)*n <= (high-low)*i {
			thousandths++
		}
		return thousandths
	}
	list := []impl.Rung{}
	for i := range n {
		list = append(list, rung(end(i), end(i+1)))
	}
	return list
}

// isLadderBy compares all pairs of Rungs.
func isLadderBy(list []impl.Rung) bool {
	if len(list) == 0 || len(list) > mostRungs {
		return false
	}
	for i, r := range list {
		if r.Low < 0 || r.High > fullStrength || r.Low > r.High {
			return false
		}
		for _, later := range list[i:] {
			if later.Low < r.Low || later.High < r.High {
				return false
			}
		}
	}
	return true
}

// justAt returns the lightest and the heaviest Brine with a strength of limit thousandths.
func justAt(limit int) []impl.Brine {
	salt, water := limit, fullStrength-limit
	for _, n := range []int{2, 2, 2, 5, 5, 5} {
		if salt%n == 0 && water%n == 0 {
			salt, water = salt/n, water/n
		}
	}
	times := impl.MaxWater / max(salt, water)
	return []impl.Brine{brine(water, salt), brine(times*water, times*salt)}
}

// justBeyond returns the Brine with a strength above limit thousandths, or below them, by as little as one of the heaviest Brines can have.
func justBeyond(limit int, above bool) (impl.Brine, bool) {
	best, least := impl.Brine{}, 1001
	most := 1000 * impl.MaxWater / max(limit, 1000-limit)
	for mass := most; mass > most-2000; mass-- {
		salt := (limit*mass+999)/1000 - 1
		if above {
			salt = limit*mass/1000 + 1
		}
		apart := max(1000*salt-limit*mass, limit*mass-1000*salt)
		valid := salt >= 0 && salt <= mass && salt <= impl.MaxWater && mass-salt <= impl.MaxWater
		if valid && apart < least {
			best, least = brine(mass-salt, salt), apart
		}
	}
	return best, least < 1001
}

// ladderBrines are Brines without a mass, with the greatest numbers, and at the ends of the Rungs of a ladder.
func ladderBrines(list []impl.Rung) []impl.Brine {
	brines := append([]impl.Brine{{}, brine(1, 0), brine(0, 1), brine(1, 1), brine(17, 0), brine(0, 17)}, bigBrines...)
	for _, r := range list {
		for _, limit := range []int{r.Low, r.High} {
			brines = append(brines, justAt(limit)...)
			brines = append(brines, justAt(max(limit-1, 0))[0], justAt(min(limit+1, 1000))[0])
		}
	}
	return brines
}

func randomBrine13(r *rand.Rand) impl.Brine {
	most := []int{2, 10, 500, 20000, impl.MaxWater}[r.IntN(5)]
	b := brine(r.IntN(most+1), r.IntN(most+1))
	switch r.IntN(6) {
	case 0:
		b.Water = 0
	case 1:
		b.Salt /= 10
	}
	return b
}

// seriesOn returns a series whose Basins stand on the Rungs of a ladder, but for some of them.
func seriesOn(r *rand.Rand, list []impl.Rung, n int) []impl.Basin {
	series := []impl.Basin{}
	for i := range n {
		limits := list[min(i, len(list)-1)]
		limit := limits.Low + r.IntN(limits.High-limits.Low+1)
		b := justAt(limit)[r.IntN(2)]
		switch r.IntN(8) {
		case 0:
			b = randomBrine13(r)
		case 1:
			b = impl.Brine{}
		case 2:
			b = justAt(max(limits.Low-1, 0))[r.IntN(2)]
		case 3:
			b = justAt(min(limits.High+1, 1000))[r.IntN(2)]
		}
		series = append(series, impl.Basin{Area: 1 + r.IntN(greatestArea), Brine: b})
	}
	return series
}

// checkRungs holds the Rungs of a Brine, and what may be added and go on each, against the rule.
func checkRungs(t *testing.T, list []impl.Rung, b impl.Brine) {
	t.Helper()
	argument, check := guardedLadder(t, list)
	got, ok := impl.RungsFor(argument, b)
	wantInts(t, fmt.Sprint("RungsFor ", list, b), got, ok, rungsBy(list, b), true)
	for i, r := range list {
		if standsExactly(b, r) != slices.Contains(got, i) {
			t.Error("RungsFor", list, b, "got", got)
		}
		room, ok := impl.RoomOnRung(argument, i, b)
		checkRoom(t, list, i, b, room, ok)
		sun, ok := impl.SunOnRung(argument, i, b)
		checkSun(t, list, i, b, sun, ok)
	}
	for _, i := range []int{-1, len(list)} {
		expectNoRung(t, list, i, b)
	}
	check()
}

// checkRoom holds a number of kilograms, and one more, against the rule.
func checkRoom(t *testing.T, list []impl.Rung, i int, b impl.Brine, room int, ok bool) {
	t.Helper()
	call := fmt.Sprint("RoomOnRung ", list, i, b)
	if massOf(b) == 0 || !standsBy(b, list[i]) {
		wantInt(t, call, room, ok, 0, false)
		return
	}
	more := brine(b.Water+room, b.Salt)
	if !ok || room < 0 || more.Water > impl.MaxWater || !standsBy(more, list[i]) {
		t.Error(call, "got", room, ok)
	}
	more.Water++
	if more.Water <= impl.MaxWater && standsBy(more, list[i]) {
		t.Error(call, "got", room, ok, "but there may be one more")
	}
}

// checkSun holds a number of kilograms, and one more, against the rule.
func checkSun(t *testing.T, list []impl.Rung, i int, b impl.Brine, sun int, ok bool) {
	t.Helper()
	call := fmt.Sprint("SunOnRung ", list, i, b)
	if massOf(b) == 0 || !standsBy(b, list[i]) {
		wantInt(t, call, sun, ok, 0, false)
		return
	}
	less := brine(b.Water-sun, b.Salt)
	if !ok || sun < 0 || less.Water < 0 || !standsBy(less, list[i]) {
		t.Error(call, "got", sun, ok)
	}
	less.Water--
	if less.Water >= 0 && standsBy(less, list[i]) {
		t.Error(call, "got", sun, ok, "but one more may go")
	}
}

// checkTried holds what may be added and go against all kilograms.
func checkTried(t *testing.T, list []impl.Rung, b impl.Brine) {
	t.Helper()
	for i, r := range list {
		room, ok := impl.RoomOnRung(list, i, b)
		want, wantOK := roomBy(r, b)
		wantInt(t, fmt.Sprint("RoomOnRung ", list, i, b), room, ok, want, wantOK)
		sun, ok := impl.SunOnRung(list, i, b)
		want, wantOK = sunBy(r, b)
		wantInt(t, fmt.Sprint("SunOnRung ", list, i, b), sun, ok, want, wantOK)
	}
}

// checkKept holds OffRungs and DoesKeep against the rule and against each other.
func checkKept(t *testing.T, list []impl.Rung, series []impl.Basin) {
	t.Helper()
	rungs, checkRungs := guardedLadder(t, list)
	basins, checkBasins := guardedSeries(t, series)
	off, offOK := impl.OffRungs(rungs, basins)
	keeps, keepsOK := impl.DoesKeep(rungs, basins)
	checkRungs()
	checkBasins()
	if len(list) != len(series) {
		wantInts(t, fmt.Sprint("OffRungs ", list, series), off, offOK, nil, false)
		wantAnswer(t, fmt.Sprint("DoesKeep ", list, series), keeps, keepsOK, false, false)
		return
	}
	want := offBy(list, series)
	wantInts(t, fmt.Sprint("OffRungs ", list, series), off, offOK, want, true)
	wantAnswer(t, fmt.Sprint("DoesKeep ", list, series), keeps, keepsOK, len(want) == 0, true)
	if keeps != (len(off) == 0) {
		t.Error("DoesKeep", list, series, "tells", keeps, "but OffRungs", off)
	}
	for i, basin := range series {
		stood, ok := impl.RungsFor(list, basin.Brine)
		if !ok || slices.Contains(stood, i) == slices.Contains(off, i) {
			t.Error("RungsFor", list, basin.Brine, "tells", stood, "but OffRungs of", series, off)
		}
	}
}

// checkJoin joins in both orders, and holds the result against the rule.
func checkJoin(t *testing.T, a []impl.Rung, b []impl.Rung) ([]impl.Rung, bool) {
	t.Helper()
	first, checkFirst := guardedLadder(t, a)
	second, checkSecond := guardedLadder(t, b)
	want, wantOK := joinBy(a, b)
	got, ok := impl.JoinLadders(first, second)
	wantLadder(t, fmt.Sprint("JoinLadders ", a, b), got, ok, want, wantOK)
	other, ok := impl.JoinLadders(second, first)
	wantLadder(t, fmt.Sprint("JoinLadders ", b, a), other, ok, want, wantOK)
	if ok && !impl.IsLadder(got) {
		t.Error("JoinLadders", a, b, "got no ladder:", got)
	}
	checkFirst()
	checkSecond()
	return got, ok
}

func expectNoKept(t *testing.T, list []impl.Rung, series []impl.Basin) {
	t.Helper()
	rungs, checkRungs := guardedLadder(t, list)
	basins, checkBasins := guardedSeries(t, series)
	call := fmt.Sprint(len(list), fewRungs(list), len(series), fewOf(series))
	keeps, ok := impl.DoesKeep(rungs, basins)
	wantAnswer(t, "DoesKeep "+call, keeps, ok, false, false)
	off, ok := impl.OffRungs(rungs, basins)
	wantInts(t, "OffRungs "+call, off, ok, nil, false)
	checkRungs()
	checkBasins()
}

func expectNoRungs(t *testing.T, list []impl.Rung, b impl.Brine) {
	t.Helper()
	argument, check := guardedLadder(t, list)
	got, ok := impl.RungsFor(argument, b)
	wantInts(t, fmt.Sprint("RungsFor ", len(list), fewRungs(list), b), got, ok, nil, false)
	check()
}

func expectNoRung(t *testing.T, list []impl.Rung, i int, b impl.Brine) {
	t.Helper()
	argument, check := guardedLadder(t, list)
	call := fmt.Sprint(len(list), fewRungs(list), i, b)
	room, ok := impl.RoomOnRung(argument, i, b)
	wantInt(t, "RoomOnRung "+call, room, ok, 0, false)
	sun, ok := impl.SunOnRung(argument, i, b)
	wantInt(t, "SunOnRung "+call, sun, ok, 0, false)
	check()
}

func expectNoJoin(t *testing.T, a []impl.Rung, b []impl.Rung) {
	t.Helper()
	first, checkFirst := guardedLadder(t, a)
	second, checkSecond := guardedLadder(t, b)
	got, ok := impl.JoinLadders(first, second)
	wantLadder(t, fmt.Sprint("JoinLadders ", len(a), fewRungs(a), len(b), fewRungs(b)), got, ok, nil, false)
	checkFirst()
	checkSecond()
}

func expectNoEven(t *testing.T, n int, low int, high int) {
	t.Helper()
	got, ok := impl.EvenLadder(n, low, high)
	wantLadder(t, fmt.Sprint("EvenLadder ", n, low, high), got, ok, nil, false)
}

func TestIsLadder(t *testing.T) {
	for _, list := range goodLadders() {
		argument, check := guardedLadder(t, list)
		if !impl.IsLadder(argument) {
			t.Error("a ladder:", list)
		}
		check()
	}
	for _, list := range badLadders() {
		argument, check := guardedLadder(t, list)
		if impl.IsLadder(argument) {
			t.Error("no ladder:", len(list), fewRungs(list))
		}
		check()
	}
	for n := range 20 {
		if impl.IsLadder(sameRungs(n, 3, 5)) != (n >= 1 && n <= mostRungs) {
			t.Error("IsLadder with", n, "Rungs")
		}
	}
}

// TestSmallLadders has all lists of up to three Rungs with few numbers at each of the limits.
func TestSmallLadders(t *testing.T) {
	for _, start := range []int{-1, 0, 499, 997, 998} {
		rungs := []impl.Rung{}
		for low := start; low < start+4; low++ {
			for high := start; high < start+4; high++ {
				rungs = append(rungs, rung(low, high))
			}
		}
		for _, a := range rungs {
			for _, b := range rungs {
				for _, c := range rungs {
					for _, list := range [][]impl.Rung{{a}, {a, b}, {a, b, c}} {
						if impl.IsLadder(list) != isLadderBy(list) {
							t.Error("IsLadder", list, "got", impl.IsLadder(list))
						}
					}
				}
			}
		}
	}
}

func TestDoesKeepAndOffRungs(t *testing.T) {
	const most = impl.MaxWater
	two, three := ladder(0, 100, 50, 300), ladder(100, 200, 150, 200, 150, 1000)
	for _, c := range []struct {
		list   []impl.Rung
		series []impl.Basin
		off    []int
	}{
		{two, basins(1, 800, 200, 1, 0, 0), []int{0}}, {two, basins(1, 900, 100, 1, 900, 100), nil}, {two, basins(1, 900, 101, 1, 900, 100), []int{0}}, {two, basins(1, 5, 0, 1, 5, 0), []int{1}}, {two, basins(9, 0, 5, 9, 0, 5), []int{0, 1}}, {two, basins(9, 0, 0, 9, 0, 0), nil},
		// Just at the Low and the High, and beyond.
		{three, basins(1, 900, 100, 1, 850, 150, 1, 850, 150), nil}, {three, basins(1, 800, 200, 1, 800, 200, 1, 0, 1), nil}, {three, basins(1, 901, 100, 1, 851, 150, 1, 851, 150), []int{0, 1, 2}}, {three, basins(1, 799, 200, 1, 799, 200, 1, 0, most), []int{0, 1}}, {three, basins(1, 900000, 100000, 1, 850000, 150000, 1, 850000, 150000), nil}, {three, basins(1, 900001, 100000, 1, 850001, 150000, 1, 850001, 150000), []int{0, 1, 2}}, {three, basins(1, 900000, 99999, 1, 850000, 149999, 1, 850000, 149999), []int{0, 1, 2}}, {three, basins(1, 800000, 200001, 1, 799999, 200000, 1, 0, 0), []int{0, 1}},
		// One Rung, and the most.
		{ladder(0, 0), basins(greatestArea, most, 0), nil}, {ladder(0, 0), basins(greatestArea, most, 1), []int{0}}, {ladder(1000, 1000), basins(1, 0, most), nil}, {ladder(1000, 1000), basins(1, 1, most), []int{0}}, {ladder(500, 500), basins(1, most, most), nil}, {ladder(500, 500), basins(1, most, most-1), []int{0}}, {ladder(500, 500), basins(1, most-1, most), []int{0}}, {ladder(1000, 1000), basins(1, 0, 0), nil},
		{sameRungs(8, 0, 1000), sameBasins(8, 3, 7, 5), nil}, {sameRungs(8, 0, 0), sameBasins(8, 3, 7, 5), upToIndex(8)}, {sameRungs(8, 500, 500), onlyAt(8, 0, brine(3, 2)), []int{0}}, {sameRungs(8, 500, 500), onlyAt(8, 7, brine(3, 2)), []int{7}}, {sameRungs(8, 500, 500), onlyAt(8, 4, brine(3, 3)), nil},
		// The others' Rungs are not looked at, and a ladder needs no rising series.
		{ladder(0, 500, 0, 500), basins(1, 6, 4, 1, 9, 1), nil}, {ladder(0, 100, 200, 300), basins(1, 75, 25, 1, 95, 5), []int{0, 1}},
	} {
		off, ok := impl.OffRungs(c.list, c.series)
		wantInts(t, fmt.Sprint("OffRungs ", c.list, c.series), off, ok, c.off, true)
		keeps, ok := impl.DoesKeep(c.list, c.series)
		wantAnswer(t, fmt.Sprint("DoesKeep ", c.list, c.series), keeps, ok, len(c.off) == 0, true)
		checkKept(t, c.list, c.series)
	}
}

// TestDrawnSeriesOnLadders has series of the same length, longer ones and shorter ones.
func TestDrawnSeriesOnLadders(t *testing.T) {
	r := rand.New(rand.NewPCG(13, 2))
	kept := 0
	for _, list := range goodLadders() {
		for range 30 {
			series := seriesOn(r, list, len(list))
			checkKept(t, list, series)
			if len(offBy(list, series)) == 0 {
				kept++
			}
		}
		for n := 1; n <= mostRungs; n++ {
			checkKept(t, list, seriesOn(r, list, n))
			checkKept(t, list, sameBasins(n, 1, 0, 0))
		}
	}
	if kept < 300 {
		t.Error("only", kept, "drawn series keep their ladders")
	}
}

func TestRungsFor(t *testing.T) {
	const most = impl.MaxWater
	two, gaps, eight := ladder(0, 100, 50, 300), ladder(0, 10, 20, 30, 40, 50), ladder(0, 125, 125, 250, 250, 375, 375, 500, 500, 625, 625, 750, 750, 875, 875, 1000)
	for _, c := range []struct {
		list []impl.Rung
		b    impl.Brine
		want []int
	}{
		{two, brine(900, 100), []int{0, 1}}, {two, brine(800, 200), []int{1}}, {two, brine(951, 50), []int{0}}, {two, brine(950, 50), []int{0, 1}}, {two, brine(950, 49), []int{0}}, {two, brine(899, 100), []int{1}}, {two, brine(700, 300), []int{1}}, {two, brine(700, 301), nil}, {two, brine(5, 0), []int{0}}, {two, brine(0, 5), nil},
		// Without a mass, on all of them.
		{two, brine(0, 0), []int{0, 1}}, {gaps, brine(0, 0), []int{0, 1, 2}}, {eight, brine(0, 0), upToIndex(8)}, {ladder(1000, 1000), brine(0, 0), []int{0}}, {ladder(0, 0), brine(0, 0), []int{0}},
		// Between Rungs, and where one ends and the next one begins.
		{gaps, brine(985, 15), nil}, {gaps, brine(989, 11), nil}, {gaps, brine(99000, 1001), nil}, {gaps, brine(981, 20), nil}, {gaps, brine(980, 20), []int{1}}, {gaps, brine(990, 10), []int{0}}, {gaps, brine(970, 30), []int{1}}, {gaps, brine(970, 31), nil}, {gaps, brine(949, 51), nil}, {gaps, brine(0, 1), nil}, {gaps, brine(1, 0), []int{0}},
		{eight, brine(875, 125), []int{0, 1}}, {eight, brine(7, 1), []int{0, 1}}, {eight, brine(1, 1), []int{3, 4}}, {eight, brine(most, most), []int{3, 4}}, {eight, brine(most, most-1), []int{3}}, {eight, brine(most-1, most), []int{4}}, {eight, brine(1, 7), []int{6, 7}}, {eight, brine(0, most), []int{7}}, {eight, brine(most, 0), []int{0}},
		{sameRungs(8, 0, 1000), brine(3, 4), upToIndex(8)}, {sameRungs(8, 500, 500), brine(3, 4), nil}, {ladder(0, 0, 1000, 1000), brine(most, 0), []int{0}}, {ladder(0, 0, 1000, 1000), brine(0, most), []int{1}}, {ladder(0, 0, 1000, 1000), brine(most, 1), nil}, {ladder(0, 0, 1000, 1000), brine(1, most), nil},
	} {
		got, ok := impl.RungsFor(c.list, c.b)
		wantInts(t, fmt.Sprint("RungsFor ", c.list, c.b), got, ok, c.want, true)
		checkRungs(t, c.list, c.b)
	}
}

// TestStrengthsJustAtLimits has Brines that stand just at each of the thousandths, and just beyond.
func TestStrengthsJustAtLimits(t *testing.T) {
	for limit := 0; limit <= fullStrength; limit++ {
		list := ladder(0, limit, limit, limit, limit, 1000)
		for _, b := range justAt(limit) {
			got, ok := impl.RungsFor(list, b)
			wantInts(t, fmt.Sprint("RungsFor ", list, b), got, ok, []int{0, 1, 2}, true)
			checkRungs(t, list, b)
		}
		for _, above := range []bool{false, true} {
			b, found := justBeyond(limit, above)
			if found != (above && limit < 1000 || !above && limit > 0) {
				t.Fatal("no strength beyond", limit, above)
			}
			if !found {
				continue
			}
			want := []int{0}
			if above {
				want = []int{2}
			}
			got, ok := impl.RungsFor(list, b)
			wantInts(t, fmt.Sprint("RungsFor ", list, b), got, ok, want, true)
			checkRungs(t, list, b)
		}
	}
}

func TestRoomOnRung(t *testing.T) {
	const most = impl.MaxWater
	two := ladder(0, 100, 50, 300)
	for _, c := range []struct {
		list []impl.Rung
		i    int
		b    impl.Brine
		want int
	}{
		{two, 1, brine(900, 100), 1000}, {two, 1, brine(700, 300), 5000}, {two, 1, brine(950, 50), 0}, {two, 1, brine(949, 50), 1}, {two, 1, brine(18, 1), 1}, {two, 1, brine(19, 1), 0},
		// A Low of 0, where only the greatest Water limits.
		{two, 0, brine(900, 100), 999100}, {two, 0, brine(1, 0), 999999}, {two, 0, brine(most, 0), 0}, {two, 0, brine(most, 1), 0}, {two, 0, brine(most-1, 1), 1}, {ladder(0, 0), 0, brine(5, 0), 999995}, {ladder(0, 1000), 0, brine(0, most), most}, {ladder(0, 1000), 0, brine(0, 1), most},
		// The greatest Water limits before the Low does.
		{ladder(1, 1000), 0, brine(0, 1001), 999999}, {ladder(1, 1000), 0, brine(0, 1000), 999000}, {ladder(1, 1000), 0, brine(0, 1002), most}, {ladder(500, 1000), 0, brine(0, most), most}, {ladder(501, 1000), 0, brine(0, most), 996007}, {ladder(500, 1000), 0, brine(most, most), 0}, {ladder(400, 1000), 0, brine(999999, most), 1}, {ladder(400, 1000), 0, brine(most, most), 0},
		// A High of 1000, and a Low that is rounded.
		{ladder(1000, 1000), 0, brine(0, 1), 0}, {ladder(1000, 1000), 0, brine(0, most), 0}, {ladder(999, 1000), 0, brine(0, 999), 1}, {ladder(999, 1000), 0, brine(0, 998), 0}, {ladder(999, 1000), 0, brine(0, most), 1001}, {ladder(300, 400), 0, brine(2, 1), 0}, {ladder(333, 400), 0, brine(2, 1), 0}, {ladder(300, 400), 0, brine(20, 10), 3}, {ladder(300, 400), 0, brine(200, 100), 33}, {ladder(7, 8), 0, brine(992, 8), 142}, {ladder(7, 7), 0, brine(993, 7), 0},
		// The last one of the most Rungs, and the same Rungs.
		{sameRungs(8, 100, 200), 7, brine(80, 20), 100}, {sameRungs(8, 100, 200), 0, brine(80, 20), 100}, {ladder(0, 200, 100, 200, 100, 200), 2, brine(85, 15), 50},
	} {
		room, ok := impl.RoomOnRung(c.list, c.i, c.b)
		wantInt(t, fmt.Sprint("RoomOnRung ", c.list, c.i, c.b), room, ok, c.want, true)
		checkTried(t, c.list, c.b)
	}
}

func TestSunOnRung(t *testing.T) {
	const most = impl.MaxWater
	two := ladder(0, 100, 50, 300)
	for _, c := range []struct {
		list []impl.Rung
		i    int
		b    impl.Brine
		want int
	}{
		{two, 0, brine(900, 100), 0}, {two, 1, brine(900, 100), 666}, {two, 0, brine(901, 100), 1}, {two, 1, brine(700, 300), 0}, {two, 1, brine(701, 300), 1}, {two, 1, brine(950, 50), 833}, {two, 0, brine(most, 1), 999991}, {two, 0, brine(9, 1), 0}, {two, 0, brine(10, 1), 1},
		// Without Salt, where all the Water may go.
		{two, 0, brine(7, 0), 7}, {two, 0, brine(1, 0), 1}, {two, 0, brine(most, 0), most}, {ladder(0, 0), 0, brine(1, 0), 1}, {ladder(0, 0), 0, brine(most, 0), most}, {ladder(0, 1000), 0, brine(most, 0), most}, {ladder(0, 1), 0, brine(3, 0), 3},
		// A High of 1000, where all the Water may go too.
		{ladder(0, 1000), 0, brine(5, 5), 5}, {ladder(0, 1000), 0, brine(most, most), most}, {ladder(0, 1000), 0, brine(most, 1), most}, {ladder(500, 1000), 0, brine(1, 1), 1}, {ladder(1000, 1000), 0, brine(0, 1), 0}, {ladder(1000, 1000), 0, brine(0, most), 0},
		// A High that is rounded.
		{ladder(0, 999), 0, brine(1, 999), 0}, {ladder(0, 999), 0, brine(2, 999), 1}, {ladder(0, 999), 0, brine(1, 1), 0}, {ladder(0, 999), 0, brine(2, 1), 1}, {ladder(0, 999), 0, brine(most, most), 998998}, {ladder(300, 400), 0, brine(2, 1), 0}, {ladder(300, 400), 0, brine(20, 10), 5}, {ladder(300, 400), 0, brine(22, 11), 5}, {ladder(300, 300), 0, brine(700, 300), 0}, {ladder(0, 1), 0, brine(most, 1000), 1000}, {ladder(0, 1), 0, brine(most, 1001), 1}, {ladder(500, 501), 0, brine(most, most), 3992},
		// The last one of the most Rungs, and the same Rungs.
		{sameRungs(8, 100, 200), 7, brine(90, 10), 50}, {sameRungs(8, 100, 200), 0, brine(90, 10), 50}, {ladder(0, 150, 100, 200, 100, 200), 0, brine(90, 10), 33},
	} {
		sun, ok := impl.SunOnRung(c.list, c.i, c.b)
		wantInt(t, fmt.Sprint("SunOnRung ", c.list, c.i, c.b), sun, ok, c.want, true)
		checkTried(t, c.list, c.b)
	}
}

// TestBrinesOnLadders has Brines at the ends of the Rungs, and drawn ones.
func TestBrinesOnLadders(t *testing.T) {
	r := rand.New(rand.NewPCG(13, 3))
	for _, list := range goodLadders() {
		for _, b := range ladderBrines(list) {
			checkRungs(t, list, b)
		}
		for range 20 {
			checkRungs(t, list, randomBrine13(r))
		}
	}
}

// TestKilogramsTried tries all kilograms, for little Brines on many ladders, and for a few with much Water.
func TestKilogramsTried(t *testing.T) {
	r := rand.New(rand.NewPCG(13, 4))
	for _, list := range handLadders[:12] {
		for _, b := range smallBrines(4) {
			checkTried(t, list, b)
		}
	}
	for range 150 {
		list := randomLadder(r, 1+r.IntN(3))
		checkTried(t, list, randomBrine13(r))
		limits := list[r.IntN(len(list))]
		checkTried(t, list, justAt(limits.Low + r.IntN(limits.High-limits.Low+1))[r.IntN(2)])
	}
}

func TestJoinLadders(t *testing.T) {
	two := ladder(0, 100, 50, 300)
	for _, c := range []struct{ a, b, want []impl.Rung }{
		{two, ladder(10, 200, 60, 250), ladder(10, 100, 60, 250)}, {two, two, two}, {two, ladder(0, 1000, 0, 1000), two}, {two, sameRungs(2, 50, 100), sameRungs(2, 50, 100)}, {two, ladder(20, 40, 200, 400), ladder(20, 40, 200, 300)},
		{ladder(0, 1000), ladder(0, 1000), ladder(0, 1000)}, {ladder(0, 0), ladder(0, 1000), ladder(0, 0)}, {ladder(1000, 1000), ladder(0, 1000), ladder(1000, 1000)}, {ladder(0, 600), ladder(400, 1000), ladder(400, 600)}, {ladder(400, 600), ladder(0, 1000), ladder(400, 600)},
		// The Rungs share one strength alone.
		{ladder(0, 500), ladder(500, 1000), ladder(500, 500)}, {ladder(7, 7), ladder(7, 7), ladder(7, 7)}, {two, ladder(100, 100, 300, 300), ladder(100, 100, 300, 300)}, {two, ladder(100, 900, 300, 900), ladder(100, 100, 300, 300)}, {ladder(10, 20, 30, 40), ladder(0, 10, 0, 30), ladder(10, 10, 30, 30)},
		// The Rungs share none, all of them or one.
		{ladder(0, 499), ladder(500, 1000), nil}, {ladder(0, 0), ladder(1, 1), nil}, {ladder(0, 0), ladder(1000, 1000), nil}, {two, ladder(101, 900, 101, 900), nil}, {two, ladder(0, 100, 301, 301), nil}, {two, ladder(0, 49, 0, 49), nil}, {two, ladder(0, 10, 20, 30), nil}, {ladder(10, 20, 30, 40, 50, 60), ladder(10, 20, 30, 40, 61, 61), nil}, {ladder(10, 20, 30, 40, 50, 60), ladder(0, 9, 30, 40, 50, 60), nil}, {ladder(10, 20, 30, 40, 50, 60), ladder(0, 29, 0, 29, 50, 60), nil},
		// The most Rungs.
		{sameRungs(8, 0, 500), sameRungs(8, 500, 1000), sameRungs(8, 500, 500)}, {append(sameRungs(7, 0, 500), rung(0, 1000)), append(sameRungs(7, 500, 500), rung(501, 501)), append(sameRungs(7, 500, 500), rung(501, 501))}, {sameRungs(8, 0, 500), append(sameRungs(7, 0, 500), rung(501, 501)), nil}, {sameRungs(8, 0, 500), sameRungs(8, 501, 1000), nil},
		// Different lengths.
		{two, ladder(0, 100), nil}, {two, ladder(0, 1000, 0, 1000, 0, 1000), nil}, {ladder(0, 1000), sameRungs(8, 0, 1000), nil}, {sameRungs(7, 0, 1000), sameRungs(8, 0, 1000), nil},
	} {
		got, ok := checkJoin(t, c.a, c.b)
		wantLadder(t, fmt.Sprint("JoinLadders ", c.a, c.b), got, ok, c.want, len(c.want) > 0)
	}
}

// TestWhatStandsOnJoinedLadders: what stands on the Rung of two ladders together stands on those of both, and the other way round.
func TestWhatStandsOnJoinedLadders(t *testing.T) {
	r := rand.New(rand.NewPCG(13, 5))
	joins, fails := 0, 0
	for range 3000 {
		n := 1 + r.IntN(mostRungs)
		a, b := randomLadder(r, n), randomLadder(r, n)
		if r.IntN(2) == 0 {
			b = slices.Clone(a)
			b[0].Low = r.IntN(a[0].Low + 1)
			b[n-1].High += r.IntN(1001 - a[n-1].High)
		}
		joined, ok := checkJoin(t, a, b)
		if ok {
			joins++
		} else {
			fails++
		}
		brines := []impl.Brine{{}, randomBrine13(r), randomBrine13(r)}
		for _, limits := range []impl.Rung{a[r.IntN(n)], b[r.IntN(n)]} {
			brines = append(brines, justAt(limits.Low)[0], justAt(limits.High)[1])
		}
		for _, one := range brines {
			checkOnBoth(t, a, b, joined, ok, one)
		}
	}
	if joins < 300 || fails < 300 {
		t.Error("only", joins, "ladders are joined, and", fails, "are not")
	}
}

// checkOnBoth holds the Rungs of a Brine on a joined ladder against those on both, and if there is no such ladder expects a Rung that the Brine lacks on one of them.
func checkOnBoth(t *testing.T, a []impl.Rung, b []impl.Rung, joined []impl.Rung, ok bool, one impl.Brine) {
	t.Helper()
	onA, _ := impl.RungsFor(a, one)
	onB, _ := impl.RungsFor(b, one)
	onBoth := slices.DeleteFunc(slices.Clone(onA), func(i int) bool { return !slices.Contains(onB, i) })
	if !ok {
		if len(onBoth) == len(a) && massOf(one) > 0 {
			t.Error(one, "stands on all of", a, "and of", b, "which are not joined")
		}
		return
	}
	got, gotOK := impl.RungsFor(joined, one)
	wantInts(t, fmt.Sprint("RungsFor ", joined, one, " joined of ", a, b), got, gotOK, onBoth, true)
}

func TestWidestRung(t *testing.T) {
	for _, c := range []struct {
		list []impl.Rung
		want int
	}{
		{ladder(0, 100, 50, 300), 1}, {ladder(0, 300, 50, 300), 0}, {ladder(0, 0), 0}, {ladder(0, 1000), 0}, {ladder(1000, 1000), 0}, {ladder(0, 0, 0, 1), 1}, {ladder(0, 1, 1, 1), 0},
		// Several that are equally wide.
		{sameRungs(8, 0, 0), 0}, {sameRungs(8, 0, 1000), 0}, {ladder(0, 5, 5, 9, 10, 15, 12, 15), 0}, {ladder(0, 4, 1, 6, 3, 8, 3, 8, 7, 11), 1}, {ladder(7, 8, 8, 9, 9, 11, 10, 12), 2}, {ladder(0, 10, 20, 30, 40, 50, 60, 70), 0}, {ladder(0, 10, 20, 30, 40, 51, 60, 71), 2},
		// The last one of the most.
		{append(sameRungs(7, 5, 9), rung(5, 10)), 7}, {append(sameRungs(7, 0, 999), rung(0, 1000)), 7}, {append(sameRungs(7, 0, 0), rung(1000, 1000)), 0},
	} {
		got, ok := impl.WidestRung(c.list)
		wantInt(t, fmt.Sprint("WidestRung ", c.list), got, ok, c.want, true)
	}
	for _, list := range goodLadders() {
		argument, check := guardedLadder(t, list)
		got, ok := impl.WidestRung(argument)
		wantInt(t, fmt.Sprint("WidestRung ", list), got, ok, widestBy(list), true)
		check()
	}
}

func TestEvenLadder(t *testing.T) {
	for _, c := range []struct {
		n, low, high int
		want         []impl.Rung
	}{
		{2, 0, 100, ladder(0, 50, 50, 100)}, {1, 0, 1000, ladder(0, 1000)}, {1, 0, 0, ladder(0, 0)}, {1, 1000, 1000, ladder(1000, 1000)}, {1, 35, 264, ladder(35, 264)}, {4, 100, 500, ladder(100, 200, 200, 300, 300, 400, 400, 500)},
		{8, 0, 1000, ladder(0, 125, 125, 250, 250, 375, 375, 500, 500, 625, 625, 750, 750, 875, 875, 1000)}, {8, 0, 0, sameRungs(8, 0, 0)}, {8, 1000, 1000, sameRungs(8, 1000, 1000)}, {8, 70, 70, sameRungs(8, 70, 70)},
		// Lows and Highs that are rounded down.
		{3, 0, 1000, ladder(0, 333, 333, 666, 666, 1000)}, {7, 0, 1000, ladder(0, 142, 142, 285, 285, 428, 428, 571, 571, 714, 714, 857, 857, 1000)}, {8, 0, 1, ladder(0, 0, 0, 0, 0, 0, 0, 0, 0, 0, 0, 0, 0, 0, 0, 1)}, {8, 999, 1000, append(sameRungs(7, 999, 999), rung(999, 1000))}, {3, 10, 15, ladder(10, 11, 11, 13, 13, 15)}, {2, 999, 1000, ladder(999, 999, 999, 1000)}, {6, 35, 264, ladder(35, 73, 73, 111, 111, 149, 149, 187, 187, 225, 225, 264)}, {5, 1, 3, ladder(1, 1, 1, 1, 1, 2, 2, 2, 2, 3)},
	} {
		got, ok := impl.EvenLadder(c.n, c.low, c.high)
		wantLadder(t, fmt.Sprint("EvenLadder ", c.n, c.low, c.high), got, ok, c.want, true)
	}
}

// TestEvenLaddersOfAllNumbers takes all numbers of Rungs and each width from both ends and the middle.
func TestEvenLaddersOfAllNumbers(t *testing.T) {
	for n := 1; n <= mostRungs; n++ {
		for width := range fullStrength + 1 {
			for _, low := range []int{0, (fullStrength - width) / 2, fullStrength - width} {
				got, ok := impl.EvenLadder(n, low, low+width)
				wantLadder(t, fmt.Sprint("EvenLadder ", n, low, low+width), got, ok, evenBy(n, low, low+width), true)
				if !impl.IsLadder(got) || got[0].Low != low || got[n-1].High != low+width {
					t.Error("EvenLadder", n, low, low+width, "got", got)
				}
			}
		}
	}
}

func TestEvenLadderOfWrongNumbers(t *testing.T) {
	for _, n := range badRungNumbers {
		for _, low := range []int{0, 50, 1000} {
			expectNoEven(t, n, low, 1000)
			expectNoEven(t, n, low, low)
		}
	}
	for n := 1; n <= mostRungs; n++ {
		for _, bad := range noRungs() {
			expectNoEven(t, n, bad.Low, bad.High)
		}
	}
}

// TestNoLadders has each list that is no ladder, in each place, with what would be valid otherwise.
func TestNoLadders(t *testing.T) {
	for _, list := range badLadders() {
		series := sameBasins(max(len(list), 1), 1, 0, 0)
		expectNoKept(t, list, series)
		expectNoKept(t, list, sameBasins(mostRungs, 5, 9, 1))
		for _, b := range []impl.Brine{{}, brine(900, 100), brine(1, 0), brine(0, 1), brine(impl.MaxWater, impl.MaxWater)} {
			expectNoRungs(t, list, b)
			for _, i := range []int{0, 1, len(list) - 1, len(list), math.MinInt} {
				expectNoRung(t, list, i, b)
			}
		}
		all := sameRungs(max(len(list), 1), 0, 1000)
		expectNoJoin(t, list, all)
		expectNoJoin(t, all, list)
		expectNoJoin(t, list, list)
		argument, check := guardedLadder(t, list)
		widest, ok := impl.WidestRung(argument)
		wantInt(t, fmt.Sprint("WidestRung ", len(list), fewRungs(list)), widest, ok, 0, false)
		check()
	}
}

// TestLaddersWithWrongSeriesAndBrines has valid ladders with all that is not valid beside them.
func TestLaddersWithWrongSeriesAndBrines(t *testing.T) {
	for _, series := range badSeries() {
		for _, n := range []int{1, mostRungs, min(max(len(series), 1), mostRungs)} {
			expectNoKept(t, sameRungs(n, 0, 1000), series)
		}
	}
	for _, list := range [][]impl.Rung{ladder(0, 1000), ladder(0, 100, 50, 300), sameRungs(8, 0, 1000), ladder(0, 0), ladder(1000, 1000)} {
		for _, b := range noBrines {
			expectNoRungs(t, list, b)
			for i := range list {
				expectNoRung(t, list, i, b)
			}
		}
	}
}

func TestRungsWithWrongIndices(t *testing.T) {
	for _, list := range handLadders {
		for _, b := range []impl.Brine{{}, brine(900, 100), brine(impl.MaxWater, 0), justAt(list[0].Low)[0], justAt(list[len(list)-1].High)[0]} {
			for _, i := range []int{-1, -2, -len(list), len(list), len(list) + 1, mostRungs, mostRungs + 1, 1 << 32, 1<<32 + 1, math.MaxInt, math.MaxInt - 1, math.MinInt, math.MinInt + 1} {
				expectNoRung(t, list, i, b)
			}
		}
	}
}

// expectLaddersApart writes into a result, also behind its end, and then into the arguments.
func expectLaddersApart(t *testing.T, call string, join func() ([]impl.Rung, bool), arguments ...[]impl.Rung) {
	t.Helper()
	before := [][]impl.Rung{}
	for _, argument := range arguments {
		before = append(before, slices.Clone(argument))
	}
	got, ok := join()
	other, _ := join()
	want := slices.Clone(got)
	for i := range got[:cap(got)] {
		got[:cap(got)][i] = rung(-7, -7)
	}
	for i, argument := range arguments {
		wantLadder(t, call+" changes its argument", argument, true, before[i], true)
	}
	wantLadder(t, call+" after another result was written into", other, ok, want, ok)
	for _, argument := range arguments {
		clear(argument)
	}
	wantLadder(t, call+" after its arguments were written into", other, ok, want, ok)
}

// TestLadderResultsAreApart writes into the results, also behind their ends, and into the arguments.
func TestLadderResultsAreApart(t *testing.T) {
	r := rand.New(rand.NewPCG(13, 6))
	for _, list := range goodLadders() {
		n := len(list)
		for _, other := range [][]impl.Rung{list, sameRungs(n, 0, 1000), randomLadder(r, n)} {
			a, b := slices.Clone(list), slices.Clone(other)
			expectLaddersApart(t, fmt.Sprint("JoinLadders ", list, other), func() ([]impl.Rung, bool) { return impl.JoinLadders(a, b) }, a, b)
		}
		same := slices.Clone(list)
		expectLaddersApart(t, fmt.Sprint("JoinLadders ", list, " with itself"), func() ([]impl.Rung, bool) { return impl.JoinLadders(same, same) }, same)
		low, high := list[0].Low, list[n-1].High
		expectLaddersApart(t, fmt.Sprint("EvenLadder ", n, low, high), func() ([]impl.Rung, bool) { return impl.EvenLadder(n, low, high) })
		series := seriesOn(r, list, n)
		for _, call := range []func() ([]int, bool){
			func() ([]int, bool) { return impl.RungsFor(list, series[0].Brine) },
			func() ([]int, bool) { return impl.OffRungs(list, series) },
		} {
			got, ok := call()
			other, _ := call()
			want := slices.Clone(got)
			scribble(got)
			wantInts(t, fmt.Sprint("RungsFor and OffRungs ", list, series, " after another result was written into"), other, ok, want, true)
		}
	}
}
