package tests

import (
	"fmt"
	"math"
	"math/big"
	"math/rand/v2"
	"slices"
	"testing"

	"loop.example/g01019/impl"
)

const (
	mostPasses        = 100
	mostPassesToEmpty = 1000
)

// badPasses are no kilograms of a pass.
var badPasses = []int{0, -1, -2, -50, -100, -maxMass, math.MinInt, math.MinInt + 1}

// badTimes are beyond the limits of AfterPasses.
var badTimes = []int{-1, -2, -100, mostPasses + 1, mostPasses + 2, 1000, 1 << 32, 1<<32 + 1, math.MaxInt, math.MaxInt - 1, math.MinInt, math.MinInt + 1}

// basins returns Basins of an Area, Water and Salt each.
func basins(numbers ...int) []impl.Basin {
	list := []impl.Basin{}
	for i := 0; i < len(numbers); i += 3 {
		list = append(list, impl.Basin{Area: numbers[i], Brine: brine(numbers[i+1], numbers[i+2])})
	}
	return list
}

// sameBasins returns n Basins that are alike.
func sameBasins(n int, area int, water int, salt int) []impl.Basin {
	return slices.Repeat(basins(area, water, salt), n)
}

// onlyAt returns n empty Basins, but for one.
func onlyAt(n int, i int, b impl.Brine) []impl.Basin {
	list := sameBasins(n, 5, 0, 0)
	list[i].Brine = b
	return list
}

// handSeries are lists with all that the chapter names.
func handSeries() [][]impl.Basin {
	const most = impl.MaxWater
	return [][]impl.Basin{
		basins(10, 90, 10, 10, 0, 0, 10, 80, 20), basins(1, 0, 0), basins(greatestArea, 0, 0), basins(1, 1, 0), basins(1, 0, 1), basins(1, most, most), basins(greatestArea, most, most), basins(7, most, 0), basins(7, 0, most), basins(3, 900, 100),
		// Empty Basins, all of them or some.
		sameBasins(2, 1, 0, 0), sameBasins(8, 9, 0, 0), onlyAt(8, 0, brine(900, 100)), onlyAt(8, 3, brine(7, 3)), onlyAt(8, 7, brine(most, most)), basins(5, 0, 0, 5, 9, 1, 5, 0, 0, 5, 8, 2, 5, 0, 0, 5, 0, 0, 5, 8, 3, 5, 0, 0), basins(5, 9, 1, 5, 0, 0, 5, 91, 9), basins(5, 9, 1, 5, 0, 0, 5, 89, 11),
		// Equal strengths and equal depths.
		basins(10, 90, 10, 1, 9, 1, 100, 900, 100), basins(2, 0, 7, 3, 0, 9, 1, 0, 1), basins(2, 7, 0, 3, 9, 0, 1, 1, 0), sameBasins(8, 100, 70, 30), sameBasins(8, greatestArea, most, most), sameBasins(7, 1, most, 0), basins(3, 5, 5, 2, 4, 3, 4, 9, 5, 1, 4, 0, 2, 0, 7), basins(3, 5, 1, 1, 1, 1, 2, 3, 1, 4, 8, 0),
		// Rising and falling ones, by much and by little.
		basins(4, 100, 0, 4, 90, 10, 4, 80, 20, 4, 0, 5), basins(4, 0, 5, 4, 80, 20, 4, 90, 10, 4, 100, 0), basins(1, 1, 1, 1, 2, 1, 1, 1, 1), basins(1, 2, 1, 1, 1, 1, 1, 2, 1), basins(1, most, most-1, 1, most, most), basins(1, most, most, 1, most, most-1), basins(1, most-1, most-2, 1, most, most-1), basins(1, most, most-1, 1, most-1, most-2),
		// Little in one Basin, much in the others.
		basins(5, 500, 500, 5, 3, 2, 5, 500, 500), basins(5, 1, 0, 5, most-1, most, 5, 0, 1), basins(5, 999, 1, 5, 1, 999, 5, 1, 1, 5, 0, 0, 5, 333, 667), basins(99999, 1999, 0, greatestArea, 1999, 0, 99998, 0, 1999),
		// Basins that may become too full.
		basins(5, most, 0, 5, most, most), basins(5, most, 0, 5, most, 0), basins(5, 0, most, 5, most, most, 5, 0, 0), basins(5, 0, most, 5, 0, most), basins(5, 1000, 0, 5, most-20, most), basins(5, 10000, 0, 5, most, most), basins(5, 0, 30, 5, 500, most-7, 5, most, most),
	}
}

// randomSeries returns a series with few or all numbers, so that empty and equal Basins are frequent.
func randomSeries(r *rand.Rand) []impl.Basin {
	areas, kilograms := []int{1, 3, 100, greatestArea}[r.IntN(4)], []int{2, 4, 30, 1000, impl.MaxWater + 1}[r.IntN(5)]
	list := []impl.Basin{}
	for range 1 + r.IntN(impl.MaxBasins) {
		b := brine(r.IntN(kilograms), r.IntN(kilograms))
		if r.IntN(5) == 0 {
			b = impl.Brine{}
		}
		list = append(list, impl.Basin{Area: 1 + r.IntN(areas), Brine: b})
	}
	return list
}

// goodSeries are the lists by hand, and others made by chance.
func goodSeries() [][]impl.Basin {
	lists := handSeries()
	r := rand.New(rand.NewPCG(8, 23))
	for range 300 {
		lists = append(lists, randomSeries(r))
	}
	return lists
}

// noBasins are Basins with a number that is beyond its limit.
func noBasins() []impl.Basin {
	list := []impl.Basin{{}, {Brine: brine(9, 1)}, {Area: math.MinInt, Brine: brine(math.MaxInt, math.MaxInt)}}
	for _, area := range badAreas {
		list = append(list, basins(area, 0, 0, area, 9, 1, area, impl.MaxWater, impl.MaxWater)...)
	}
	for _, b := range noBrines {
		list = append(list, impl.Basin{Area: 1, Brine: b}, impl.Basin{Area: greatestArea, Brine: b})
	}
	return list
}

// badSeries are lists that are no series.
func badSeries() [][]impl.Basin {
	lists := [][]impl.Basin{nil, {}, sameBasins(9, 1, 0, 0), sameBasins(9, greatestArea, 9, 1), sameBasins(10, 5, 9, 1), sameBasins(16, 5, 0, 0), sameBasins(1000, 5, 1, 1), make([]impl.Basin, 8), make([]impl.Basin, 9)}
	for _, b := range noBasins() {
		one := []impl.Basin{b}
		lists = append(lists, one, append(basins(5, 9, 1, 5, 0, 0), b), append(one, basins(5, 9, 1, 5, 0, 0)...), slices.Concat(basins(5, 0, 0), one, basins(5, 8, 2)), append(sameBasins(7, 5, 9, 1), b), []impl.Basin{b, b})
	}
	return lists
}

// guardedSeries returns the list as the start of a longer one, and what checks that neither changed.
func guardedSeries(t *testing.T, list []impl.Basin) ([]impl.Basin, func()) {
	backing := append(slices.Clone(list), basins(1, 5, 500, 0, math.MinInt, math.MaxInt)...)
	before := slices.Clone(backing)
	return backing[:len(list)], func() {
		t.Helper()
		if !slices.Equal(backing, before) {
			t.Errorf("%v was changed to %v", before, backing)
		}
	}
}

// fewOf returns the start of a list that may be long, for messages.
func fewOf(list []impl.Basin) []impl.Basin { return list[:min(len(list), 10)] }

func wantBasins(t *testing.T, call string, got []impl.Basin, ok bool, want []impl.Basin, wantOK bool) {
	t.Helper()
	if !slices.Equal(got, want) || ok != wantOK {
		t.Errorf("%s: got %v, %v, want %v, %v", call, got, ok, want, wantOK)
	}
}

// wantPass has the pan between the series and the success.
func wantPass(t *testing.T, call string, got []impl.Basin, pan impl.Brine, ok bool, want []impl.Basin, wantPan impl.Brine, wantOK bool) {
	t.Helper()
	if !slices.Equal(got, want) || pan != wantPan || ok != wantOK {
		t.Errorf("%s: got %v, %v, %v, want %v, %v, %v", call, got, pan, ok, want, wantPan, wantOK)
	}
}

func wantSun(t *testing.T, call string, got []impl.Basin, lost int, ok bool, want []impl.Basin, wantLost int, wantOK bool) {
	t.Helper()
	if !slices.Equal(got, want) || lost != wantLost || ok != wantOK {
		t.Errorf("%s: got %v, %d, %v, want %v, %d, %v", call, got, lost, ok, want, wantLost, wantOK)
	}
}

func wantAnswer(t *testing.T, call string, got bool, ok bool, want bool, wantOK bool) {
	t.Helper()
	if got != want || ok != wantOK {
		t.Errorf("%s: got %v, %v, want %v, %v", call, got, ok, want, wantOK)
	}
}

// passage has the Brines of all Basins and, at its end, the pan, which may have any mass.
type passage []impl.Brine

func passageOf(list []impl.Basin, pan impl.Brine) passage {
	p := passage{}
	for _, b := range list {
		p = append(p, b.Brine)
	}
	return append(p, pan)
}

// step makes a pass as the chapter tells it, from the last Basin to the first one.
func (p passage) step(n int) {
	for i := len(p) - 2; i >= 0; i-- {
		mass := massOf(p[i])
		taken := n
		if mass < n {
			taken = mass
		}
		if taken == 0 {
			continue
		}
		salt := p[i].Salt * taken / mass
		p[i].Salt -= salt
		p[i].Water -= taken - salt
		p[i+1].Salt += salt
		p[i+1].Water += taken - salt
	}
}

func hasTooMuch(b impl.Brine) bool { return b.Water > impl.MaxWater || b.Salt > impl.MaxWater }

// holds reports whether nothing is in a Basin or in the pan that is too much.
func (p passage) holds() bool { return !slices.ContainsFunc(p, hasTooMuch) }

func (p passage) series(list []impl.Basin) []impl.Basin {
	result := slices.Clone(list)
	for i := range result {
		result[i].Brine = p[i]
	}
	return result
}

func (p passage) sum() impl.Brine {
	sum := impl.Brine{}
	for _, b := range p {
		sum.Water += b.Water
		sum.Salt += b.Salt
	}
	return sum
}

// passesBy counts the passes until the Basins are empty.
func passesBy(list []impl.Basin, n int) (int, bool) {
	p := passageOf(list, impl.Brine{})
	pan := len(p) - 1
	for passes := 0; passes <= mostPassesToEmpty; passes++ {
		if massOf(p[:pan].sum()) == 0 {
			return passes, true
		}
		p.step(n)
		if !p[:pan].holds() {
			return 0, false
		}
	}
	return 0, false
}

func strengthOf(b impl.Brine) *big.Rat { return big.NewRat(int64(b.Salt), int64(massOf(b))) }

func depthOf(b impl.Basin) *big.Rat { return big.NewRat(int64(massOf(b.Brine)), int64(b.Area)) }

// risingBy compares every Basin with all those before it.
func risingBy(list []impl.Basin) bool {
	for i, b := range list {
		for _, before := range list[:i] {
			if massOf(b.Brine) > 0 && massOf(before.Brine) > 0 && strengthOf(b.Brine).Cmp(strengthOf(before.Brine)) < 0 {
				return false
			}
		}
	}
	return true
}

// strongestBy goes through the Basins from the last one on.
func strongestBy(list []impl.Basin) (int, bool) {
	best, found := 0, false
	for i, b := range slices.Backward(list) {
		if massOf(b.Brine) > 0 && (!found || strengthOf(b.Brine).Cmp(strengthOf(list[best].Brine)) >= 0) {
			best, found = i, true
		}
	}
	return best, found
}

// orderBy counts, for each Basin, those that are in front of it.
func orderBy(list []impl.Basin) []int {
	order := make([]int, len(list))
	for i, b := range list {
		place := 0
		for j, other := range list {
			if c := depthOf(other).Cmp(depthOf(b)); c > 0 || c == 0 && j < i {
				place++
			}
		}
		order[place] = i
	}
	return order
}

// sunnedBy dries one Basin after the other.
func sunnedBy(list []impl.Basin, rate int) ([]impl.Basin, int) {
	result, lost := slices.Clone(list), 0
	for i, b := range list {
		if massOf(b.Brine) > 0 {
			loss := exactLoss(rate, b.Brine, b.Area)
			result[i].Brine.Water -= loss
			lost += loss
		}
	}
	return result, lost
}

// kilogramsOfNote are passes around what is in each Basin, and around the limits.
func kilogramsOfNote(list []impl.Basin) []int {
	numbers := []int{1, 2, 10, impl.MaxWater, maxMass, maxMass + 1, 1 << 32, math.MaxInt}
	for _, b := range list {
		mass := massOf(b.Brine)
		numbers = append(numbers, max(mass/2, 1), max(mass-1, 1), max(mass, 1), mass+1)
	}
	slices.Sort(numbers)
	return slices.Compact(numbers)
}

// pansOfNote are such with room for all, for nothing, and for some of what comes out of a series.
func pansOfNote(list []impl.Basin) []impl.Brine {
	last := list[len(list)-1].Brine
	return []impl.Brine{
		{}, brine(9, 1), brine(impl.MaxWater, impl.MaxWater), brine(impl.MaxWater, 0), brine(0, impl.MaxWater), brine(impl.MaxWater-last.Water, impl.MaxWater-last.Salt),
		brine(impl.MaxWater-last.Water/2, 0), brine(0, impl.MaxWater-last.Salt/2), brine(min(impl.MaxWater-last.Water+1, impl.MaxWater), 0),
	}
}

// passTimes are numbers of passes, in ascending order.
var passTimes = []int{0, 1, 2, 3, 7, 8, 9, 50, mostPasses - 1, mostPasses}

// checkPasses holds the passes of n kilograms against the rule of the chapter, and against the sums from before.
func checkPasses(t *testing.T, list []impl.Basin, pan impl.Brine, n int) {
	t.Helper()
	p := passageOf(list, pan)
	sum, holds, made := p.sum(), true, 0
	for _, times := range passTimes {
		for ; made < times && holds; made++ {
			p.step(n)
			holds = p.holds()
		}
		want, wantPan := p.series(list), p[len(list)]
		if !holds {
			want, wantPan = nil, impl.Brine{}
		}
		got, gotPan, ok := impl.AfterPasses(list, pan, n, times)
		wantPass(t, fmt.Sprint("AfterPasses ", list, pan, n, times), got, gotPan, ok, want, wantPan, holds)
		if ok && passageOf(got, gotPan).sum() != sum {
			t.Error("AfterPasses", list, pan, n, times, "got", got, gotPan, "with other sums than", sum)
		}
		if times == 1 {
			got, gotPan, ok := impl.AfterPass(list, pan, n)
			wantPass(t, fmt.Sprint("AfterPass ", list, pan, n), got, gotPan, ok, want, wantPan, holds)
		}
	}
}

// checkAsked holds what is asked of a series against all its Basins.
func checkAsked(t *testing.T, list []impl.Basin) {
	t.Helper()
	call := fmt.Sprint(" ", list)
	want := passageOf(list, impl.Brine{}).sum()
	fits := !hasTooMuch(want)
	if !fits {
		want = impl.Brine{}
	}
	sum, ok := impl.SeriesSum(list)
	wantBrine(t, "SeriesSum"+call, sum, ok, want, fits)
	rising, ok := impl.IsRising(list)
	wantAnswer(t, "IsRising"+call, rising, ok, risingBy(list), true)
	best, found := strongestBy(list)
	i, ok := impl.StrongestBasin(list)
	wantInt(t, "StrongestBasin"+call, i, ok, best, found)
	order, ok := impl.DepthOrder(list)
	wantInts(t, "DepthOrder"+call, order, ok, orderBy(list), true)
}

// checkSunned holds days with some Rates against single Basins, and against chapter 6.
func checkSunned(t *testing.T, list []impl.Basin) {
	t.Helper()
	for _, rate := range []int{0, 1, 10, 999, 1000, 1001, 3333, greatestRate - 1, greatestRate} {
		call := fmt.Sprint("SunOnSeries ", list, rate)
		want, wantLost := sunnedBy(list, rate)
		got, lost, ok := impl.SunOnSeries(list, rate)
		wantSun(t, call, got, lost, ok, want, wantLost, true)
		for i, b := range list {
			if massOf(b.Brine) > 0 {
				after, ok := impl.AfterSun(sunsOf(7, rate), b.Brine, b.Area, 7, 7)
				wantBrine(t, call+" as in chapter 6", got[i].Brine, true, after, ok)
			}
		}
	}
}

// checkFilled puts Brines into the first Basin, such with which it is just full among them.
func checkFilled(t *testing.T, list []impl.Basin) {
	t.Helper()
	first := list[0].Brine
	room := brine(impl.MaxWater-first.Water, impl.MaxWater-first.Salt)
	for _, b := range []impl.Brine{{}, brine(10, 0), brine(0, 10), brine(9, 1), room, brine(room.Water+1, 0), brine(0, room.Salt+1), brine(room.Water+1, room.Salt), brine(room.Water, room.Salt+1), brine(impl.MaxWater, 0), brine(0, impl.MaxWater), brine(impl.MaxWater, impl.MaxWater)} {
		want := slices.Clone(list)
		want[0].Brine = brine(first.Water+b.Water, first.Salt+b.Salt)
		fits := b.Water <= room.Water && b.Salt <= room.Salt && b.Water <= impl.MaxWater && b.Salt <= impl.MaxWater
		if !fits {
			want = nil
		}
		got, ok := impl.FillFirst(list, b)
		wantBasins(t, fmt.Sprint("FillFirst ", list, b), got, ok, want, fits)
	}
}

// checkEmptied holds passes until all is empty against the rule of the chapter.
func checkEmptied(t *testing.T, list []impl.Basin, n int) {
	t.Helper()
	want, found := passesBy(list, n)
	passes, ok := impl.PassesToEmpty(list, n)
	wantInt(t, fmt.Sprint("PassesToEmpty ", list, n), passes, ok, want, found)
}

// expectNoPasses wants the zero values of all passes for a series, a pan or kilograms that are not valid.
func expectNoPasses(t *testing.T, list []impl.Basin, pan impl.Brine, n int) {
	t.Helper()
	call := fmt.Sprint(" ", fewOf(list), pan, n)
	got, gotPan, ok := impl.AfterPass(list, pan, n)
	wantPass(t, "AfterPass"+call, got, gotPan, ok, nil, impl.Brine{}, false)
	for _, times := range []int{0, 1, 2, mostPasses} {
		got, gotPan, ok := impl.AfterPasses(list, pan, n, times)
		wantPass(t, fmt.Sprint("AfterPasses", call, times), got, gotPan, ok, nil, impl.Brine{}, false)
	}
}

func expectNoEmptying(t *testing.T, list []impl.Basin, n int) {
	t.Helper()
	passes, ok := impl.PassesToEmpty(list, n)
	wantInt(t, fmt.Sprint("PassesToEmpty ", fewOf(list), n), passes, ok, 0, false)
}

func expectNoFilling(t *testing.T, list []impl.Basin, b impl.Brine) {
	t.Helper()
	got, ok := impl.FillFirst(list, b)
	wantBasins(t, fmt.Sprint("FillFirst ", fewOf(list), b), got, ok, nil, false)
}

func expectNoSunOn(t *testing.T, list []impl.Basin, rate int) {
	t.Helper()
	got, lost, ok := impl.SunOnSeries(list, rate)
	wantSun(t, fmt.Sprint("SunOnSeries ", fewOf(list), rate), got, lost, ok, nil, 0, false)
}

func TestIsSeries(t *testing.T) {
	for _, list := range goodSeries() {
		list, check := guardedSeries(t, list)
		if !impl.IsSeries(list) {
			t.Error("a series:", list)
		}
		check()
	}
	for _, list := range badSeries() {
		list, check := guardedSeries(t, list)
		if impl.IsSeries(list) {
			t.Error("no series:", fewOf(list))
		}
		check()
	}
	for n := 0; n <= 20; n++ {
		want := n >= 1 && n <= impl.MaxBasins
		if impl.IsSeries(sameBasins(n, 1, 0, 0)) != want || impl.IsSeries(sameBasins(n, greatestArea, impl.MaxWater, impl.MaxWater)) != want {
			t.Error(n, "Basins are a series: not", want)
		}
	}
}

// TestIsSeriesOfAllNumbers tries each number of a Basin apart from the others, in each place.
func TestIsSeriesOfAllNumbers(t *testing.T) {
	for n := -300; n <= greatestArea+300; n++ {
		if want := n >= 1 && n <= greatestArea; impl.IsSeries(basins(n, 9, 1)) != want {
			t.Error(n, "is an Area: not", want)
		}
	}
	for _, start := range []int{-300, impl.MaxWater - 300} {
		for n := start; n <= start+600; n++ {
			want := n >= 0 && n <= impl.MaxWater
			if impl.IsSeries(basins(5, n, 1)) != want || impl.IsSeries(basins(5, 1, n)) != want {
				t.Error(n, "is Water and Salt: not", want)
			}
		}
	}
	for i := range impl.MaxBasins {
		for _, b := range noBasins() {
			list := sameBasins(impl.MaxBasins, 5, 9, 1)
			list[i] = b
			if impl.IsSeries(list) {
				t.Error("no series:", list)
			}
		}
	}
}

func TestAskedOfSeries(t *testing.T) {
	for _, list := range goodSeries() {
		list, check := guardedSeries(t, list)
		checkAsked(t, list)
		checkSunned(t, list)
		checkFilled(t, list)
		check()
	}
}

func TestPassesOfSeries(t *testing.T) {
	for i, list := range goodSeries() {
		list, check := guardedSeries(t, list)
		numbers := kilogramsOfNote(list)
		for j, pan := range pansOfNote(list) {
			for k, n := range numbers {
				if i < len(handSeries()) || (i+j+k)%5 == 0 {
					checkPasses(t, list, pan, n)
				}
			}
		}
		for _, n := range numbers {
			checkEmptied(t, list, n)
		}
		check()
	}
}

// TestSmallSeries has all pairs of small Brines one behind the other, with and without an empty Basin between them.
func TestSmallSeries(t *testing.T) {
	for i, a := range smallBrines(4) {
		for j, b := range smallBrines(4) {
			near := []impl.Basin{{Area: 1 + i%3, Brine: a}, {Area: 1 + j%3, Brine: b}}
			apart := []impl.Basin{{Area: 1, Brine: a}, {Area: 2}, {Area: 3, Brine: b}}
			for _, list := range [][]impl.Basin{near, apart} {
				list, check := guardedSeries(t, list)
				checkAsked(t, list)
				checkSunned(t, list)
				for n := 1; n <= 9; n++ {
					checkPasses(t, list, brine(j%2, i%2), n)
					checkEmptied(t, list, n)
				}
				check()
			}
		}
	}
}

// TestThreeBasins has all strengths of three small Basins, empty ones among them, in each order.
func TestThreeBasins(t *testing.T) {
	few := smallBrines(2)
	for i, a := range few {
		for j, b := range few {
			for k, c := range few {
				checkAsked(t, []impl.Basin{{Area: 1 + i%2, Brine: a}, {Area: 1 + j%2, Brine: b}, {Area: 1 + k%2, Brine: c}})
			}
		}
	}
}

func TestNoSeries(t *testing.T) {
	for _, list := range badSeries() {
		list, check := guardedSeries(t, list)
		sum, ok := impl.SeriesSum(list)
		wantBrine(t, fmt.Sprint("SeriesSum ", fewOf(list)), sum, ok, impl.Brine{}, false)
		rising, ok := impl.IsRising(list)
		wantAnswer(t, fmt.Sprint("IsRising ", fewOf(list)), rising, ok, false, false)
		i, ok := impl.StrongestBasin(list)
		wantInt(t, fmt.Sprint("StrongestBasin ", fewOf(list)), i, ok, 0, false)
		order, ok := impl.DepthOrder(list)
		wantInts(t, fmt.Sprint("DepthOrder ", fewOf(list)), order, ok, nil, false)
		for _, n := range []int{1, 50, maxMass, math.MaxInt, 0, math.MinInt} {
			expectNoPasses(t, list, impl.Brine{}, n)
			expectNoPasses(t, list, brine(-1, 0), n)
			expectNoEmptying(t, list, n)
		}
		for _, b := range []impl.Brine{{}, brine(9, 1), brine(-1, -1), brine(1, 0), brine(0, 1)} {
			expectNoFilling(t, list, b)
		}
		for _, rate := range []int{0, 1000, greatestRate, -1} {
			expectNoSunOn(t, list, rate)
		}
		check()
	}
}

// TestFillingMendsNothing has a first Basin and a Brine that would be valid together.
func TestFillingMendsNothing(t *testing.T) {
	for _, c := range [][2]impl.Brine{
		{brine(-1, 0), brine(1, 0)}, {brine(0, -1), brine(0, 1)}, {brine(-900, -100), brine(900, 100)}, {brine(impl.MaxWater+1, 0), brine(-1, 0)}, {brine(0, impl.MaxWater+1), brine(0, -1)},
		{brine(math.MaxInt, 0), brine(math.MinInt+1, 5)}, {brine(math.MinInt, math.MinInt), brine(math.MinInt, math.MinInt)}, {brine(math.MaxInt, math.MaxInt), brine(math.MinInt+6, math.MinInt+6)},
	} {
		for _, pair := range [][2]impl.Brine{c, {c[1], c[0]}} {
			expectNoFilling(t, []impl.Basin{{Area: 5, Brine: pair[0]}, {Area: 5}}, pair[1])
			expectNoPasses(t, []impl.Basin{{Area: 5, Brine: pair[0]}}, pair[1], 10)
			expectNoPasses(t, []impl.Basin{{Area: 5, Brine: pair[0]}, {Area: 5, Brine: pair[1]}}, impl.Brine{}, 10)
		}
	}
}

func TestBadNumbersForSeries(t *testing.T) {
	for _, list := range goodSeries() {
		list, check := guardedSeries(t, list)
		for _, pan := range append([]impl.Brine{{}, brine(9, 1)}, noBrines...) {
			for _, n := range badPasses {
				expectNoPasses(t, list, pan, n)
			}
		}
		for _, bad := range noBrines {
			for _, n := range []int{1, 50, maxMass, math.MaxInt} {
				expectNoPasses(t, list, bad, n)
			}
			expectNoFilling(t, list, bad)
		}
		for _, times := range badTimes {
			for _, n := range []int{1, maxMass, 0} {
				got, pan, ok := impl.AfterPasses(list, impl.Brine{}, n, times)
				wantPass(t, fmt.Sprint("AfterPasses ", list, n, times), got, pan, ok, nil, impl.Brine{}, false)
			}
		}
		for _, n := range badPasses {
			expectNoEmptying(t, list, n)
		}
		for _, rate := range badRates {
			expectNoSunOn(t, list, rate)
		}
		check()
	}
}

func TestSeriesSum(t *testing.T) {
	const most = impl.MaxWater
	for _, c := range []struct {
		list []impl.Basin
		want impl.Brine
		ok   bool
	}{
		{basins(10, 90, 10, 10, 0, 0, 10, 80, 20), brine(170, 30), true}, {basins(1, 0, 0), brine(0, 0), true}, {sameBasins(8, 1, 0, 0), brine(0, 0), true}, {basins(greatestArea, most, most), brine(most, most), true}, {sameBasins(8, 1, 125000, 0), brine(most, 0), true}, {sameBasins(8, 1, 0, 125000), brine(0, most), true},
		{basins(1, most, 0, 1, 0, most), brine(most, most), true}, {basins(1, 999999, 0, 1, 1, 0), brine(most, 0), true}, {basins(1, 0, 7, 9, 5, 0, 2, 1, 1), brine(6, 8), true},
		// Sums that are no Brine.
		{basins(1, most, 0, 1, 1, 0), brine(0, 0), false}, {basins(1, 0, most, 1, 0, 1), brine(0, 0), false}, {basins(1, 1, most, 1, 1, 1), brine(0, 0), false}, {sameBasins(8, 1, most, most), brine(0, 0), false}, {sameBasins(8, 1, 125001, 0), brine(0, 0), false}, {append(sameBasins(7, 1, 125000, 5), basins(1, 125001, 5)...), brine(0, 0), false}, {append(sameBasins(7, 1, 5, 125000), basins(1, 5, 125001)...), brine(0, 0), false},
	} {
		got, ok := impl.SeriesSum(c.list)
		wantBrine(t, fmt.Sprint("SeriesSum ", c.list), got, ok, c.want, c.ok)
	}
}

func TestIsRising(t *testing.T) {
	const most = impl.MaxWater
	for _, c := range []struct {
		list []impl.Basin
		want bool
	}{
		{basins(10, 90, 10, 10, 0, 0, 10, 80, 20), true}, {basins(10, 80, 20, 10, 0, 0, 10, 90, 10), false}, {basins(1, 9, 1, 1, 8, 2, 1, 7, 3), true}, {basins(1, 9, 1, 1, 8, 2, 1, 9, 1), false}, {basins(1, 8, 2, 1, 9, 1, 1, 7, 3), false}, {basins(1, 8, 2, 1, 9, 1, 1, 8, 2), false},
		// One Basin, and none with a mass.
		{basins(1, 0, 0), true}, {basins(1, 9, 1), true}, {basins(1, most, most), true}, {sameBasins(8, 1, 0, 0), true}, {onlyAt(8, 0, brine(1, 1)), true}, {onlyAt(8, 7, brine(1, 1)), true}, {onlyAt(8, 4, brine(0, 1)), true},
		// Empty Basins at the start, between others and at the end.
		{basins(1, 0, 0, 1, 9, 1, 1, 8, 2), true}, {basins(1, 0, 0, 1, 8, 2, 1, 9, 1), false}, {basins(1, 9, 1, 1, 8, 2, 1, 0, 0), true}, {basins(1, 8, 2, 1, 9, 1, 1, 0, 0), false}, {basins(1, 0, 5, 1, 0, 0, 1, 0, 0, 1, 5, 0), false}, {basins(1, 5, 0, 1, 0, 0, 1, 0, 0, 1, 0, 5), true}, {basins(1, 8, 2, 1, 0, 0, 1, 8, 2, 1, 0, 0, 1, 81, 19), false}, {basins(1, 8, 2, 1, 0, 0, 1, 8, 2, 1, 0, 0, 1, 79, 21), true},
		// Equal strengths, of equal masses or not.
		{sameBasins(8, 1, 7, 3), true}, {basins(1, 9, 1, 1, 90, 10, 1, 9, 1), true}, {basins(1, 0, 1, 1, 0, most, 1, 0, 7), true}, {basins(1, 5, 0, 1, most, 0, 1, 1, 0), true}, {basins(1, most, most, 1, 1, 1), true}, {basins(1, 9, 1, 1, 0, 0, 1, 900, 100), true},
		// Not the Salt counts, and not the mass.
		{basins(1, 900, 100, 1, 1, 1), true}, {basins(1, 1, 1, 1, 900, 100), false}, {basins(1, 0, 1, 1, most, most), false}, {basins(1, most, most, 1, 0, 1), true},
		// Differences that are very small.
		{basins(1, most, most-1, 1, most, most), true}, {basins(1, most, most, 1, most, most-1), false}, {basins(1, most-1, most-2, 1, most, most-1), true}, {basins(1, most, most-1, 1, most-1, most-2), false}, {basins(1, most, 1, 1, most-1, 1), true}, {basins(1, most-1, 1, 1, most, 1), false}, {basins(1, 1, most-1, 1, 1, most), true}, {basins(1, 1, most, 1, 1, most-1), false},
	} {
		got, ok := impl.IsRising(c.list)
		wantAnswer(t, fmt.Sprint("IsRising ", c.list), got, ok, c.want, true)
	}
}

func TestAfterPass(t *testing.T) {
	const most = impl.MaxWater
	full := brine(most, most)
	for _, c := range []struct {
		list []impl.Basin
		pan  impl.Brine
		n    int
		want []impl.Basin
		out  impl.Brine
	}{
		{basins(10, 90, 10, 10, 0, 0, 10, 80, 20), brine(0, 0), 50, basins(10, 45, 5, 10, 45, 5, 10, 40, 10), brine(40, 10)}, {basins(10, 90, 10, 20, 0, 0, 30, 80, 20), brine(1, 2), 50, basins(10, 45, 5, 20, 45, 5, 30, 40, 10), brine(41, 12)},
		// Less than a pass, just a pass, a kilogram more, and nothing.
		{basins(5, 6, 4), brine(0, 0), 11, basins(5, 0, 0), brine(6, 4)}, {basins(5, 6, 4), brine(0, 0), 10, basins(5, 0, 0), brine(6, 4)}, {basins(5, 6, 4), brine(0, 0), 9, basins(5, 0, 1), brine(6, 3)}, {basins(5, 0, 0), brine(0, 0), 9, basins(5, 0, 0), brine(0, 0)}, {basins(5, 0, 0), full, 9, basins(5, 0, 0), full}, {sameBasins(8, 5, 0, 0), brine(9, 1), 1, sameBasins(8, 5, 0, 0), brine(9, 1)},
		{basins(5, 3, 2, 5, 30, 20), brine(0, 0), 10, basins(5, 0, 0, 5, 27, 18), brine(6, 4)}, {basins(5, 30, 20, 5, 3, 2), brine(0, 0), 10, basins(5, 24, 16, 5, 6, 4), brine(3, 2)}, {basins(5, 30, 20, 5, 0, 0, 5, 3, 2), brine(0, 0), 10, basins(5, 24, 16, 5, 6, 4, 5, 0, 0), brine(3, 2)}, {basins(5, 6, 4, 5, 0, 1, 5, 1, 0), brine(0, 0), math.MaxInt, basins(5, 0, 0, 5, 6, 4, 5, 0, 1), brine(1, 0)},
		// The Salt of the part is rounded down, so that the Water is rounded up.
		{basins(5, 7, 3), brine(0, 0), 1, basins(5, 6, 3), brine(1, 0)}, {basins(5, 7, 3), brine(0, 0), 3, basins(5, 4, 3), brine(3, 0)}, {basins(5, 7, 3), brine(0, 0), 4, basins(5, 4, 2), brine(3, 1)}, {basins(5, 7, 3), brine(0, 0), 6, basins(5, 2, 2), brine(5, 1)}, {basins(5, 7, 3), brine(0, 0), 7, basins(5, 2, 1), brine(5, 2)}, {basins(5, 1, 9), brine(0, 0), 1, basins(5, 0, 9), brine(1, 0)}, {basins(5, 0, 9), brine(0, 0), 1, basins(5, 0, 8), brine(0, 1)}, {basins(5, 9, 0), brine(0, 0), 1, basins(5, 8, 0), brine(1, 0)},
		{basins(5, most, most), brine(0, 0), 1, basins(5, most-1, most), brine(1, 0)}, {basins(5, most, most), brine(0, 0), maxMass - 1, basins(5, 0, 1), brine(most, most-1)}, {basins(5, most, most), brine(0, 0), maxMass, basins(5, 0, 0), full},
		// No Brine moves on by more than one Basin, and what is mixed on the way stays behind.
		{onlyAt(8, 0, brine(90, 10)), brine(0, 0), 100, onlyAt(8, 1, brine(90, 10)), brine(0, 0)}, {onlyAt(8, 6, brine(90, 10)), brine(0, 0), math.MaxInt, onlyAt(8, 7, brine(90, 10)), brine(0, 0)}, {onlyAt(8, 7, brine(90, 10)), brine(0, 0), 100, sameBasins(8, 5, 0, 0), brine(90, 10)}, {basins(1, 100, 0, 2, 0, 100, 3, 50, 50), brine(0, 0), 100, basins(1, 0, 0, 2, 100, 0, 3, 0, 100), brine(50, 50)}, {basins(1, 100, 0, 2, 0, 100), brine(0, 0), 40, basins(1, 60, 0, 2, 40, 60), brine(0, 40)},
		// Basins and pans that are just full.
		{basins(5, most, 0, 5, most, 0), brine(0, 0), 100, basins(5, most-100, 0, 5, most, 0), brine(100, 0)}, {basins(5, 0, most, 5, 0, most), brine(0, 0), 100, basins(5, 0, most-100, 5, 0, most), brine(0, 100)}, {sameBasins(8, 5, most, most), brine(0, 0), maxMass, append(basins(5, 0, 0), sameBasins(7, 5, most, most)...), full}, {basins(5, 9, 1), brine(most-9, most-1), 10, basins(5, 0, 0), full}, {basins(5, 9, 0), brine(most-9, most), 10, basins(5, 0, 0), full}, {basins(5, 9, 0), brine(most-1, most), 1, basins(5, 8, 0), full}, {basins(5, 9, 0, 5, most-9, 0), brine(0, 0), 10, basins(5, 0, 0, 5, most-10, 0), brine(10, 0)},
		// Basins and pans that would become too full.
		{basins(5, most, 0, 5, most, most), brine(0, 0), 100, nil, brine(0, 0)}, {basins(5, most, 0, 5, most, most), brine(0, 0), most, nil, brine(0, 0)}, {basins(5, most, 0, 5, most, most), brine(0, 0), 1, basins(5, most-1, 0, 5, most, most), brine(1, 0)}, {basins(5, most, 0, 5, most, most), brine(0, 0), 2, nil, brine(0, 0)}, {basins(5, 0, 1, 5, most, most), brine(0, 0), 1, nil, brine(0, 0)}, {basins(5, 0, 100, 5, most, most), brine(0, 0), 100, nil, brine(0, 0)}, {basins(5, 0, 0, 5, 0, 9, 5, 9, most), brine(0, 0), 3, nil, brine(0, 0)},
		{basins(5, 9, 1), brine(most-8, 0), 10, nil, brine(0, 0)}, {basins(5, 9, 1), brine(0, most), 10, nil, brine(0, 0)}, {basins(5, 9, 1), full, 1, nil, brine(0, 0)}, {basins(5, 0, 1), full, 1, nil, brine(0, 0)}, {basins(5, 9, 0), brine(most, 0), 1, nil, brine(0, 0)}, {basins(5, 9, 0, 5, 0, 1), brine(most, most-1), 1, basins(5, 8, 0, 5, 1, 0), brine(most, most)}, {basins(5, 9, 0, 5, 1, 0), brine(most, most), 1, nil, brine(0, 0)},
	} {
		got, pan, ok := impl.AfterPass(c.list, c.pan, c.n)
		wantPass(t, fmt.Sprint("AfterPass ", c.list, c.pan, c.n), got, pan, ok, c.want, c.out, c.want != nil)
	}
}

func TestAfterPasses(t *testing.T) {
	list := basins(10, 90, 10, 10, 0, 0, 10, 80, 20)
	for _, c := range []struct {
		list     []impl.Basin
		pan      impl.Brine
		n, times int
		want     []impl.Basin
		out      impl.Brine
	}{
		{list, brine(0, 0), 50, 0, list, brine(0, 0)}, {list, brine(9, 1), 50, 0, list, brine(9, 1)}, {list, brine(0, 0), 50, 1, basins(10, 45, 5, 10, 45, 5, 10, 40, 10), brine(40, 10)}, {list, brine(0, 0), 50, 2, basins(10, 0, 0, 10, 45, 5, 10, 45, 5), brine(80, 20)}, {list, brine(0, 0), 50, 3, basins(10, 0, 0, 10, 0, 0, 10, 45, 5), brine(125, 25)},
		{list, brine(0, 0), 50, 4, sameBasins(3, 10, 0, 0), brine(170, 30)}, {list, brine(0, 0), 50, mostPasses, sameBasins(3, 10, 0, 0), brine(170, 30)}, {list, brine(0, 0), 1000, 3, sameBasins(3, 10, 0, 0), brine(170, 30)}, {list, brine(0, 0), 1000, 2, basins(10, 0, 0, 10, 0, 0, 10, 90, 10), brine(80, 20)},
		// One kilogram after the other: first the Water, which is rounded up, then both in turn.
		{basins(5, 2, 2), brine(0, 0), 1, 1, basins(5, 1, 2), brine(1, 0)}, {basins(5, 2, 2), brine(0, 0), 1, 2, basins(5, 0, 2), brine(2, 0)}, {basins(5, 2, 2), brine(0, 0), 1, 3, basins(5, 0, 1), brine(2, 1)}, {basins(5, 2, 2), brine(0, 0), 1, 4, basins(5, 0, 0), brine(2, 2)}, {basins(5, 2, 2), brine(0, 0), 1, 5, basins(5, 0, 0), brine(2, 2)}, {basins(5, 2, 2), brine(0, 0), 3, 1, basins(5, 0, 1), brine(2, 1)},
		// The greatest number of passes does just not do, and just does.
		{basins(5, 101, 0), brine(0, 0), 1, mostPasses, basins(5, 1, 0), brine(100, 0)}, {basins(5, 0, 100), brine(0, 0), 1, mostPasses, basins(5, 0, 0), brine(0, 100)}, {onlyAt(8, 0, brine(93, 0)), brine(0, 0), 1, mostPasses, sameBasins(8, 5, 0, 0), brine(93, 0)}, {onlyAt(8, 0, brine(94, 0)), brine(0, 0), 1, mostPasses, onlyAt(8, 7, brine(1, 0)), brine(93, 0)},
		{sameBasins(8, 5, 0, 0), brine(9, 1), 1, mostPasses, sameBasins(8, 5, 0, 0), brine(9, 1)}, {basins(5, 0, 0), brine(impl.MaxWater, impl.MaxWater), math.MaxInt, mostPasses, basins(5, 0, 0), brine(impl.MaxWater, impl.MaxWater)}, {onlyAt(8, 0, brine(impl.MaxWater, impl.MaxWater)), brine(0, 0), math.MaxInt, 7, onlyAt(8, 7, brine(impl.MaxWater, impl.MaxWater)), brine(0, 0)},
	} {
		got, pan, ok := impl.AfterPasses(c.list, c.pan, c.n, c.times)
		wantPass(t, fmt.Sprint("AfterPasses ", c.list, c.pan, c.n, c.times), got, pan, ok, c.want, c.out, true)
	}
}

// TestTooMuchAfterSomePasses has Brines that are valid for some passes, and such that would be valid again later.
func TestTooMuchAfterSomePasses(t *testing.T) {
	const most = impl.MaxWater
	for _, c := range []struct {
		list     []impl.Basin
		pan      impl.Brine
		n, valid int
	}{
		{basins(5, 100, 0), brine(most-25, 0), 10, 2}, {basins(5, 0, 100), brine(most, most-30), 10, 3}, {basins(5, 0, 40), brine(0, most-30), 10, 3}, {basins(5, 1000, 0), brine(most-99, 0), 1, 99}, {basins(5, 1000, 0, 5, 3, 0), brine(most-95, 0), 1, 95}, {onlyAt(8, 0, brine(9, 0)), brine(most, 0), 5, 7}, {onlyAt(8, 0, brine(9, 0)), brine(most-5, 0), 5, 8},
		{basins(5, 1000, 0, 5, most-20, most), brine(0, 0), 10, 4}, {basins(5, most, 0, 5, most, most), brine(0, 0), 100, 0}, {basins(5, 100, 0, 5, most, most), brine(0, 0), 100, 0}, {basins(5, 0, 10000, 5, most, most), brine(0, 0), 10000, 0}, {basins(5, 60, 0, 5, most-20, most), brine(0, 0), 10, 4}, {basins(5, 0, 200, 5, 100, 0, 5, most-100, most), brine(0, 0), 100, 2},
		// What comes later than the room for it.
		{basins(5, 0, 100, 5, 0, 0, 5, most, most), brine(0, 0), 100, mostPasses}, {basins(5, 0, 100, 5, 100, 0, 5, most-100, most), brine(0, 0), 100, mostPasses},
	} {
		want, wantPan := c.list, c.pan
		for times := 0; times <= mostPasses; times++ {
			if times > c.valid {
				want, wantPan = nil, impl.Brine{}
			} else if times > 0 {
				p := passageOf(want, wantPan)
				p.step(c.n)
				want, wantPan = p.series(c.list), p[len(c.list)]
			}
			got, pan, ok := impl.AfterPasses(c.list, c.pan, c.n, times)
			wantPass(t, fmt.Sprint("AfterPasses ", c.list, c.pan, c.n, times), got, pan, ok, want, wantPan, times <= c.valid)
		}
	}
}

func TestPassesToEmpty(t *testing.T) {
	const most = impl.MaxWater
	list := basins(10, 90, 10, 10, 0, 0, 10, 80, 20)
	for _, c := range []struct {
		list    []impl.Basin
		n, want int
		ok      bool
	}{
		{list, 1000, 3, true}, {list, 100, 3, true}, {list, 99, 4, true}, {list, 50, 4, true}, {list, 49, 5, true}, {list, 1, 200, true}, {list, math.MaxInt, 3, true}, {basins(1, 6, 4), 10, 1, true}, {basins(1, 6, 4), 11, 1, true}, {basins(1, 6, 4), 9, 2, true}, {basins(1, 0, 1), 1, 1, true},
		// Empty before the first pass.
		{basins(1, 0, 0), 1, 0, true}, {sameBasins(8, 1, 0, 0), 1, 0, true}, {sameBasins(8, 1, 0, 0), math.MaxInt, 0, true},
		// Empty after just 1000 passes, or not yet.
		{basins(1, 1000, 0), 1, 1000, true}, {basins(1, 0, 1000), 1, 1000, true}, {basins(1, 500, 500), 1, 1000, true}, {basins(1, 999, 0), 1, 999, true}, {basins(1, 1001, 0), 1, 0, false}, {basins(1, 0, 1001), 1, 0, false}, {basins(1, 501, 500), 1, 0, false}, {basins(1, most, most), 2000, 1000, true}, {basins(1, most, most), 2002, 1000, true}, {basins(1, most, most), 2003, 999, true}, {basins(1, most, most), 1999, 0, false}, {basins(1, most, most), 1, 0, false},
		{onlyAt(8, 0, brine(993, 0)), 1, 1000, true}, {onlyAt(8, 0, brine(994, 0)), 1, 0, false}, {onlyAt(8, 7, brine(0, 1000)), 1, 1000, true}, {onlyAt(8, 7, brine(0, 1001)), 1, 0, false}, {basins(1, 500, 0, 1, 499, 0), 1, 999, true}, {basins(1, 500, 0, 1, 500, 0), 1, 1000, true}, {basins(1, 500, 0, 1, 501, 0), 1, 0, false}, {basins(1, 999, 0, 1, 0, 0), 1, 1000, true},
		{onlyAt(8, 0, brine(9, 1)), 10, 8, true}, {onlyAt(8, 0, brine(9, 1)), 9, 9, true}, {onlyAt(8, 4, brine(9, 1)), 10, 4, true}, {onlyAt(8, 7, brine(9, 1)), 10, 1, true},
		// What is in the pan in the end would be no Brine.
		{basins(1, most, 0, 1, most, 0), most, 2, true}, {sameBasins(8, 1, most, most), maxMass, 8, true}, {sameBasins(8, 1, 0, most), math.MaxInt, 8, true}, {basins(1, 1, 0, 1, most, 0), most, 2, true}, {sameBasins(5, 1, 200000, 0), 1000, 1000, true}, {append(basins(1, 200001, 0), sameBasins(4, 1, 200000, 0)...), 1000, 0, false}, {append(sameBasins(7, 1, most, 0), basins(1, most, most)...), maxMass, 8, true},
		// A Basin becomes too full, at once or later, before all would be empty.
		{basins(1, 10000, 0, 1, most, most), 10000, 0, false}, {basins(1, 9999, 0, 1, most, most), 10000, 0, false}, {basins(1, 0, 20000, 1, 0, 0, 1, most, most), 10000, 0, false}, {basins(1, 0, 10000, 1, 0, 0, 1, most, most), 10000, 201, true}, {basins(1, 0, 10000, 1, most, most, 1, 0, 0), 10000, 0, false}, {basins(1, most, 0, 1, most, most), most, 0, false}, {append(sameBasins(7, 1, most, 0), basins(1, most, most)...), maxMass - 1, 8, true}, {append(sameBasins(7, 1, most, 0), basins(1, most, most)...), most + most/2, 0, false},
	} {
		got, ok := impl.PassesToEmpty(c.list, c.n)
		wantInt(t, fmt.Sprint("PassesToEmpty ", c.list, c.n), got, ok, c.want, c.ok)
	}
}

// TestPassesToEmptyOfAll has each mass in the first one of some Basins up to the greatest number of passes.
func TestPassesToEmptyOfAll(t *testing.T) {
	for _, length := range []int{1, 2, impl.MaxBasins} {
		for mass := 0; mass <= mostPassesToEmpty+1; mass++ {
			for _, n := range []int{1, 7, 500} {
				want := 0
				if mass > 0 {
					want = (mass+n-1)/n + length - 1
				}
				ok := want <= mostPassesToEmpty
				if !ok {
					want = 0
				}
				list := onlyAt(length, 0, brine(mass/3, mass-mass/3))
				passes, got := impl.PassesToEmpty(list, n)
				wantInt(t, fmt.Sprint("PassesToEmpty ", list, n), passes, got, want, ok)
			}
		}
	}
}

func TestFillFirst(t *testing.T) {
	const most = impl.MaxWater
	list := basins(10, 90, 10, 20, 0, 0, 30, 80, 20)
	for _, c := range []struct {
		list []impl.Basin
		b    impl.Brine
		want []impl.Basin
	}{
		{list, brine(10, 0), basins(10, 100, 10, 20, 0, 0, 30, 80, 20)}, {list, brine(0, 10), basins(10, 90, 20, 20, 0, 0, 30, 80, 20)}, {list, brine(0, 0), list}, {list, brine(most-90, most-10), basins(10, most, most, 20, 0, 0, 30, 80, 20)}, {list, brine(most-89, 0), nil}, {list, brine(0, most-9), nil}, {list, brine(most, 0), nil}, {list, brine(0, most), nil},
		{basins(1, 0, 0), brine(most, most), basins(1, most, most)}, {basins(1, 0, 0), brine(0, 0), basins(1, 0, 0)}, {basins(1, 1, 0), brine(most, 0), nil}, {basins(1, 0, 1), brine(0, most), nil}, {basins(1, most, most), brine(0, 0), basins(1, most, most)}, {basins(1, most, most), brine(1, 0), nil}, {basins(1, most, most), brine(0, 1), nil}, {basins(1, most, 0), brine(0, most), basins(1, most, most)},
		// What is in the other Basins does not count.
		{basins(1, 5, 5, 1, most, most), brine(5, 5), basins(1, 10, 10, 1, most, most)}, {append(basins(7, 0, 0), sameBasins(7, 1, most, most)...), brine(3, 4), append(basins(7, 3, 4), sameBasins(7, 1, most, most)...)},
	} {
		got, ok := impl.FillFirst(c.list, c.b)
		wantBasins(t, fmt.Sprint("FillFirst ", c.list, c.b), got, ok, c.want, c.want != nil)
	}
}

func TestSunOnSeries(t *testing.T) {
	const most = impl.MaxWater
	list := basins(10, 90, 10, 10, 0, 0, 10, 80, 20)
	for _, c := range []struct {
		list       []impl.Basin
		rate, lost int
		want       []impl.Basin
	}{
		{list, 0, 0, list}, {list, 1000, 17, basins(10, 81, 10, 10, 0, 0, 10, 72, 20)}, {list, 99, 0, list}, {list, 100, 0, list}, {list, 200, 2, basins(10, 89, 10, 10, 0, 0, 10, 79, 20)}, {list, 9999, 168, basins(10, 1, 10, 10, 0, 0, 10, 1, 20)}, {list, 10000, 170, basins(10, 0, 10, 10, 0, 0, 10, 0, 20)}, {list, greatestRate, 170, basins(10, 0, 10, 10, 0, 0, 10, 0, 20)},
		// Each Basin has its own Area.
		{basins(1, 50, 50, 10, 50, 50, 100, 50, 50, greatestArea, 50, 50), 1000, 105, basins(1, 50, 50, 10, 45, 50, 100, 0, 50, greatestArea, 0, 50)}, {basins(1, 50, 50, 2, 50, 50, 4, 50, 50), 999, 1, basins(1, 50, 50, 2, 50, 50, 4, 49, 50)}, {basins(1, 50, 50, 2, 50, 50, 4, 50, 50), 1000, 3, basins(1, 50, 50, 2, 49, 50, 4, 48, 50)},
		// Empty Basins, such without Water and such without Salt.
		{sameBasins(8, greatestArea, 0, 0), greatestRate, 0, sameBasins(8, greatestArea, 0, 0)}, {basins(10, 0, 5, 10, 5, 0, 10, 0, 0), 100, 1, basins(10, 0, 5, 10, 4, 0, 10, 0, 0)}, {basins(10, 0, 5, 10, 5, 0, 10, 0, 0), 500, 5, basins(10, 0, 5, 10, 0, 0, 10, 0, 0)}, {basins(10, 0, 5, 10, 5, 0, 10, 0, 0), greatestRate, 5, basins(10, 0, 5, 10, 0, 0, 10, 0, 0)}, {basins(1, 0, most), greatestRate, 0, basins(1, 0, most)},
		// More evaporates in all than fits into a Brine.
		{sameBasins(8, greatestArea, most, most), greatestRate, 8 * most, sameBasins(8, greatestArea, 0, most)}, {sameBasins(8, greatestArea, most, 0), greatestRate, 8 * most, sameBasins(8, greatestArea, 0, 0)}, {sameBasins(2, greatestArea, most, most), greatestRate - 1, 2*most - 100, sameBasins(2, greatestArea, 50, most)}, {sameBasins(2, 1, most, 0), greatestRate, 40, sameBasins(2, 1, most-20, 0)},
	} {
		got, lost, ok := impl.SunOnSeries(c.list, c.rate)
		wantSun(t, fmt.Sprint("SunOnSeries ", c.list, c.rate), got, lost, ok, c.want, c.lost, true)
	}
}

func TestStrongestBasin(t *testing.T) {
	const most = impl.MaxWater
	for _, c := range []struct {
		list []impl.Basin
		want int
		ok   bool
	}{
		{basins(10, 90, 10, 10, 0, 0, 10, 80, 20), 2, true}, {basins(10, 80, 20, 10, 0, 0, 10, 90, 10), 0, true}, {basins(1, 9, 1, 1, 7, 3, 1, 8, 2), 1, true}, {basins(1, 9, 1), 0, true}, {basins(1, 9, 0), 0, true}, {basins(1, 0, 9), 0, true},
		// None has a mass, or only one that is behind others.
		{basins(1, 0, 0), 0, false}, {sameBasins(8, 1, 0, 0), 0, false}, {onlyAt(8, 7, brine(1, 0)), 7, true}, {onlyAt(8, 7, brine(0, 1)), 7, true}, {onlyAt(8, 1, brine(most, 0)), 1, true}, {basins(1, 0, 0, 1, 5, 0, 1, 0, 0, 1, 7, 0), 1, true}, {basins(1, 0, 0, 1, 5, 0, 1, 0, 0, 1, 7, 1), 3, true},
		// The first one of several, of equal masses or not.
		{sameBasins(8, 1, 7, 3), 0, true}, {basins(1, 9, 1, 1, 90, 10), 0, true}, {basins(1, 90, 10, 1, 9, 1), 0, true}, {basins(1, 95, 5, 1, 9, 1, 1, 90, 10, 1, 900, 100), 1, true}, {basins(1, 0, 0, 1, 0, 1, 1, 0, most), 1, true}, {basins(1, most, 0, 1, 1, 0), 0, true}, {basins(1, most, most, 1, 1, 1, 1, 2, 2), 0, true}, {basins(1, 2, 1, 1, 1, 1, 1, 2, 1, 1, 1, 1), 1, true},
		// Neither the Salt counts nor the mass, but small differences do.
		{basins(1, 900, 100, 1, 1, 1), 1, true}, {basins(1, most, most, 1, 0, 1), 1, true}, {basins(1, most, most-1, 1, most, most), 1, true}, {basins(1, most, most, 1, most, most-1), 0, true}, {basins(1, most-1, most-2, 1, most, most-1), 1, true}, {basins(1, 1, most-1, 1, 1, most), 1, true}, {basins(1, most, 1, 1, most-1, 1), 1, true},
	} {
		got, ok := impl.StrongestBasin(c.list)
		wantInt(t, fmt.Sprint("StrongestBasin ", c.list), got, ok, c.want, c.ok)
	}
}

func TestDepthOrder(t *testing.T) {
	const most = impl.MaxWater
	for _, c := range []struct {
		list []impl.Basin
		want []int
	}{
		{basins(10, 90, 10, 10, 0, 0, 10, 80, 20), []int{0, 2, 1}}, {basins(1, 0, 0), []int{0}}, {basins(greatestArea, most, most), []int{0}}, {basins(1, 1, 0, 1, 2, 0, 1, 3, 0), []int{2, 1, 0}}, {basins(1, 3, 0, 1, 2, 0, 1, 1, 0), []int{0, 1, 2}}, {basins(1, 2, 0, 1, 0, 3, 1, 1, 0), []int{1, 0, 2}},
		// Equal depths, of equal masses or not, and of Water or of Salt.
		{sameBasins(8, 1, 0, 0), upToIndex(8)}, {sameBasins(8, 7, 5, 5), upToIndex(8)}, {basins(5, 5, 5, 2, 4, 0, 1, 0, 2, 3, 3, 3), []int{0, 1, 2, 3}}, {basins(1, 0, 0, 9, 0, 0, 5, 1, 0, 3, 0, 0), []int{2, 0, 1, 3}}, {basins(1, 1, 0, 1, 2, 0, 2, 1, 1, 2, 2, 2, 3, 3, 0), []int{1, 3, 0, 2, 4}}, {basins(greatestArea, most, most, 1, 20, 0, 50000, 500000, 500000, 1, 19, 0, 1, 0, 21), []int{4, 0, 1, 2, 3}},
		// The Area counts as well as the mass.
		{basins(greatestArea, most, most, 1, 21, 0), []int{1, 0}}, {basins(1, 5, 0, 100, 50, 50), []int{0, 1}}, {basins(9, 5, 4, 3, 5, 4, 1, 5, 4), []int{2, 1, 0}}, {basins(1, most, most, 2, most, most, 1, most, 0, 1, most, 1), []int{0, 3, 1, 2}},
		// Depths that differ by less than a whole kilogram for a square meter.
		{basins(3, 10, 0, 2, 7, 0), []int{1, 0}}, {basins(3, 1, 0, 2, 1, 0), []int{1, 0}}, {basins(3, 2, 0, 4, 3, 0, 2, 1, 0), []int{1, 0, 2}}, {basins(greatestArea, 1999, 0, 99999, 1999, 0, 99998, 0, 1999), []int{2, 1, 0}}, {basins(greatestArea, 1, 0, 99999, 1, 0, greatestArea, 0, 0), []int{1, 0, 2}}, {basins(greatestArea, most-1, most, 99999, most-1, most), []int{1, 0}}, {basins(99999, most, most-1, greatestArea, most, most), []int{0, 1}}, {basins(greatestArea, 99999, 0, 99999, 99998, 0), []int{0, 1}},
	} {
		got, ok := impl.DepthOrder(c.list)
		wantInts(t, fmt.Sprint("DepthOrder ", c.list), got, ok, c.want, true)
	}
}

// upToIndex returns the indices of n Basins.
func upToIndex(n int) []int {
	order := []int{}
	for i := range n {
		order = append(order, i)
	}
	return order
}

// TestSeriesPromise: passes keep the sums, one after the other and all at once.
func TestSeriesPromise(t *testing.T) {
	for _, list := range goodSeries() {
		for _, n := range []int{1, 3, 50, 999, maxMass, math.MaxInt} {
			series, pan := list, brine(9, 1)
			sum := passageOf(series, pan).sum()
			for made := 1; made <= 20; made++ {
				got, gotPan, ok := impl.AfterPass(series, pan, n)
				if !ok {
					break
				}
				if len(got) != len(list) || !impl.IsSeries(got) || !impl.IsBrine(gotPan) || passageOf(got, gotPan).sum() != sum {
					t.Fatal("AfterPass", series, pan, n, "got", got, gotPan, "with other sums than", sum)
				}
				series, pan = got, gotPan
				whole, wholePan, ok := impl.AfterPasses(list, brine(9, 1), n, made)
				wantPass(t, fmt.Sprint("AfterPasses ", list, n, made), whole, wholePan, ok, series, pan, true)
			}
		}
	}
}

// TestEmptiedSeries makes as many passes as are told, with pans that are emptied in time, and one fewer.
func TestEmptiedSeries(t *testing.T) {
	for _, list := range goodSeries() {
		for _, n := range kilogramsOfNote(list) {
			passes, ok := impl.PassesToEmpty(list, n)
			if !ok || passes > 200 {
				continue
			}
			series := list
			for made := range passes {
				if massOf(passageOf(series, impl.Brine{}).sum()) == 0 {
					t.Error("PassesToEmpty", list, n, "tells", passes, "but", made, "do")
				}
				series, _, ok = impl.AfterPass(series, impl.Brine{}, n)
				if !ok {
					t.Fatal("PassesToEmpty", list, n, "tells", passes, "but", made, "are made")
				}
			}
			sum, ok := impl.SeriesSum(series)
			wantBrine(t, fmt.Sprint("the end of ", list, n), sum, ok, impl.Brine{}, true)
		}
	}
}

// expectSeriesApart writes into a result, also behind its end, and then into the argument.
func expectSeriesApart(t *testing.T, call string, list []impl.Basin, change func(list []impl.Basin) []impl.Basin) {
	t.Helper()
	argument := append(slices.Clone(list), basins(1, 2, 3)...)[:len(list)]
	got, again := change(argument), change(argument)
	want := slices.Clone(got)
	if len(got) != len(list) {
		t.Error(call, list, "got", got)
	}
	for i := range got[:cap(got)] {
		got[:cap(got)][i] = impl.Basin{Area: -7, Brine: brine(-7, -7)}
	}
	if !slices.Equal(argument, list) || argument[:len(list)+1][len(list)] != basins(1, 2, 3)[0] || !slices.Equal(again, want) {
		t.Error(call, list, "got what shares memory with the argument or with another result")
	}
	clear(argument)
	if !slices.Equal(again, want) {
		t.Error(call, list, "got what changes with the argument")
	}
}

func TestSeriesResultsAreApart(t *testing.T) {
	for _, list := range goodSeries() {
		for _, n := range []int{1, 50, math.MaxInt} {
			for _, times := range []int{0, 1, 2, mostPasses} {
				if _, _, ok := impl.AfterPasses(list, impl.Brine{}, n, times); ok {
					expectSeriesApart(t, "AfterPasses", list, func(l []impl.Basin) []impl.Basin {
						got, _, _ := impl.AfterPasses(l, impl.Brine{}, n, times)
						return got
					})
				}
			}
			if _, _, ok := impl.AfterPass(list, impl.Brine{}, n); ok {
				expectSeriesApart(t, "AfterPass", list, func(l []impl.Basin) []impl.Basin { got, _, _ := impl.AfterPass(l, impl.Brine{}, n); return got })
			}
		}
		for _, b := range []impl.Brine{{}, brine(1, 0)} {
			if _, ok := impl.FillFirst(list, b); ok {
				expectSeriesApart(t, "FillFirst", list, func(l []impl.Basin) []impl.Basin { got, _ := impl.FillFirst(l, b); return got })
			}
		}
		for _, rate := range []int{0, 1000, greatestRate} {
			expectSeriesApart(t, "SunOnSeries", list, func(l []impl.Basin) []impl.Basin { got, _, _ := impl.SunOnSeries(l, rate); return got })
		}
		first, _ := impl.DepthOrder(list)
		again, _ := impl.DepthOrder(list)
		scribble(first)
		if want := orderBy(list); !slices.Equal(again, want) {
			t.Error("DepthOrder", list, "got what shares memory with another result", again, want)
		}
	}
}
