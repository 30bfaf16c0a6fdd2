package tests

import (
	"fmt"
	"math"
	"math/big"
	"math/rand/v2"
	"slices"
	"testing"

	"loop.example/g01019/impl"
)

const (
	greatestGrams = 200000
	greatestCover = 100
)

// badGrams are no Grams.
var badGrams = []int{0, -1, -2, -200000, greatestGrams + 1, greatestGrams + 2, 1<<32 + 1, 1 << 60, math.MaxInt, math.MaxInt - 1, math.MinInt, math.MinInt + 1}

// badCovers are no covers; with some of them products wrap around.
var badCovers = []int{-1, -2, -100, greatestCover + 1, greatestCover + 2, 200, 1 << 32, 1<<32 + 1, 1 << 60, 1 << 62, math.MaxInt, math.MaxInt - 1, math.MinInt, math.MinInt + 1}

var badLimits = []int{-1, -2, -900, -1000000, -1 << 32, math.MinInt, math.MinInt + 1}

// showersOf returns Showers of pairs of a Day and Grams.
func showersOf(numbers ...int) []impl.Shower {
	list := []impl.Shower{}
	for i := 0; i < len(numbers); i += 2 {
		list = append(list, impl.Shower{Day: numbers[i], Grams: numbers[i+1]})
	}
	return list
}

// showery returns n Showers of the same Grams, so many days apart from one another.
func showery(n int, day int, apart int, grams int) []impl.Shower {
	list := []impl.Shower{}
	for i := range n {
		list = append(list, impl.Shower{Day: day + i*apart, Grams: grams})
	}
	return list
}

// handShowers are lists with all that the chapter names.
func handShowers() [][]impl.Shower {
	return [][]impl.Shower{
		nil, {}, showersOf(0, 1), showersOf(0, greatestGrams), showersOf(lastDay, 1), showersOf(lastDay, greatestGrams), showersOf(2000, 777), showersOf(5, 2000), showersOf(1, 2000), showersOf(3999, 999), showersOf(3999, 1001),
		showersOf(0, 1, lastDay, 1), showersOf(0, greatestGrams, lastDay, greatestGrams), showersOf(0, 5, 1, 5), showersOf(0, 5, 2, 5), showersOf(3998, 7, lastDay, 7), showersOf(3999, 7, lastDay, 8), showersOf(1, 3, 3999, 3),
		// Days one after the other, single days between them, and spans of equal length.
		showersOf(5, 1500, 6, 2999, 7, 1), showersOf(5, 1, 7, 1, 9, 1), showersOf(5, 10, 10, 20, 15, 30, 20, 40), showersOf(4, 40, 9, 30, 14, 20, 19, 10), showersOf(0, 1, 1, 2, 2, 3, 5, 3, 6, 2, 9, 1), showersOf(10, 1, 11, 1, 13, 1, 15, 1, 18, 1, 21, 1),
		// Equal Grams.
		showersOf(5, 7, 9, 7), showersOf(5, 7, 9, 8, 12, 8, 13, 7), showersOf(5, 8, 9, 7, 12, 8), showersOf(0, greatestGrams-1, 1, greatestGrams, 2, greatestGrams), showersOf(7, 2, 8, 1, 9, 2, 10, 1),
		showery(impl.MaxRain, 0, 1, greatestGrams), showery(impl.MaxRain, 3981, 1, greatestGrams), showery(impl.MaxRain, 0, 1, 1), showery(impl.MaxRain, 0, 2, 999), showery(impl.MaxRain, 10, 5, 3333), showery(impl.MaxRain, 200, 200, 1001), showery(impl.MaxRain-1, 7, 99, 54321), showery(impl.MaxRain, 3962, 2, 1999),
	}
}

// randomShowers returns a list with Days near to each other or not, and few or all Grams.
func randomShowers(r *rand.Rand) []impl.Shower {
	grams, apart := []int{1, 3, 1000, 20000, greatestGrams}[r.IntN(5)], []int{1, 2, 3, 60, 200}[r.IntN(5)]
	least := 1 + r.IntN(greatestGrams+1-grams)
	list := []impl.Shower{}
	day := r.IntN(apart)
	if apart < 60 && r.IntN(2) == 0 {
		day += lastDay - 40
	}
	for range r.IntN(impl.MaxRain + 1) {
		if day <= lastDay {
			list = append(list, impl.Shower{Day: day, Grams: least + r.IntN(grams)})
		}
		day += 1 + r.IntN(apart)
	}
	return list
}

// goodShowers are the lists by hand, and others made by chance.
func goodShowers() [][]impl.Shower {
	lists := handShowers()
	r := rand.New(rand.NewPCG(9, 26))
	for range 200 {
		lists = append(lists, randomShowers(r))
	}
	return lists
}

// noShowers are Showers with a number that is beyond its limit.
func noShowers() []impl.Shower {
	list := []impl.Shower{{}, {Day: lastDay}}
	for _, day := range badDays {
		list = append(list, showersOf(day, 1, day, greatestGrams, day, 5)...)
	}
	for _, grams := range badGrams {
		list = append(list, showersOf(0, grams, 5, grams, lastDay, grams)...)
	}
	return append(list, showersOf(-1, 0, lastDay+1, greatestGrams+1, math.MinInt, math.MinInt, math.MaxInt, math.MaxInt)...)
}

// badShowers are lists that are no Showers.
func badShowers() [][]impl.Shower {
	lists := [][]impl.Shower{
		make([]impl.Shower, 1), make([]impl.Shower, 2), make([]impl.Shower, impl.MaxRain), showery(21, 0, 1, 5), showery(22, 0, 1, 1), showery(21, 0, 200, 5), showery(1000, 0, 4, greatestGrams),
		showersOf(5, 1, 5, 1), showersOf(5, 1, 5, 2), showersOf(5, 1, 4, 1), showersOf(1, 1, 2, 1, 2, 1), showersOf(1, 1, 3, 1, 2, 1), showersOf(1, 1, 3, 1, 1, 1), showersOf(2, 1, 1, 1, 3, 1),
		showersOf(lastDay, 1, 0, 1), showersOf(0, 1, lastDay, 1, lastDay, 1), showersOf(0, 1, 0, 1, lastDay, 1), showery(impl.MaxRain, 100, -1, 5), showery(impl.MaxRain, 100, 0, 5),
		showersOf(3, 1, 2, 1, 1, 1), showersOf(math.MaxInt, 1, math.MinInt, 1), showersOf(math.MinInt, 1, math.MaxInt, 1), showery(impl.MaxRain, 3982, 1, 5), showery(impl.MaxRain, -1, 1, 5),
	}
	for _, s := range noShowers() {
		one := []impl.Shower{s}
		lists = append(lists, one, append(showersOf(0, 5, 1, 5), s), append(one, showersOf(lastDay-1, 5, lastDay, 5)...),
			slices.Concat(showersOf(0, 5), one, showersOf(lastDay, 5)), append(showery(impl.MaxRain-1, 0, 1, 5), s))
	}
	return lists
}

// guardedShowers returns the list as the start of a longer one, and what checks that neither changed.
func guardedShowers(t *testing.T, list []impl.Shower) ([]impl.Shower, func()) {
	backing := append(slices.Clone(list), showersOf(4001, 200000, 3000, 200000, math.MinInt, math.MaxInt)...)
	before := slices.Clone(backing)
	return backing[:len(list)], func() {
		t.Helper()
		if !slices.Equal(backing, before) {
			t.Errorf("%v was changed to %v", before, backing)
		}
	}
}

// startOf returns the start of a list that may be long, for messages.
func startOf(list []impl.Shower) []impl.Shower { return list[:min(len(list), 22)] }

// daysAround are the ends of the days, and those at and around each Shower.
func daysAround(list []impl.Shower) []int {
	suns := []impl.Sun{}
	for _, s := range list {
		suns = append(suns, impl.Sun{Day: s.Day})
	}
	return daysOfNote(suns)
}

func wantSpans(t *testing.T, call string, got [][2]int, ok bool, want [][2]int, wantOK bool) {
	t.Helper()
	if !slices.Equal(got, want) || ok != wantOK {
		t.Errorf("%s: got %v, %v, want %v, %v", call, got, ok, want, wantOK)
	}
}

// rainfall has the Grams of each day.
type rainfall [lastDay + 1]int

func rainfallOf(list []impl.Shower) *rainfall {
	grams := &rainfall{}
	for _, s := range list {
		grams[s.Day] = s.Grams
	}
	return grams
}

// on follows the rule with fractions of any size.
func (g *rainfall) on(area int, day int) int {
	fallen, _ := floorAndCeil(big.NewRat(int64(g[day])*int64(area), 1000))
	return fallen
}

// wet returns a Brine after the rain of a day, if it is one.
func (g *rainfall) wet(b impl.Brine, area int, cover int, day int) (impl.Brine, bool) {
	fallen := g.on(area, day)
	_, away := floorAndCeil(big.NewRat(int64(fallen)*int64(cover), 100))
	wet := brine(b.Water+fallen-away, b.Salt)
	if wet.Water > impl.MaxWater {
		return impl.Brine{}, false
	}
	return wet, true
}

// dry goes through the days from..to.
func (g *rainfall) dry(from int, to int) [][2]int {
	spans := [][2]int{}
	for day := from; day <= to; day++ {
		if g[day] > 0 {
			continue
		}
		if day > from && g[day-1] == 0 {
			spans[len(spans)-1][1] = day
		} else {
			spans = append(spans, [2]int{day, day})
		}
	}
	return spans
}

// longest goes through the spans from the last one on.
func longest(spans [][2]int) (int, int, bool) {
	best := [2]int{0, -1}
	for _, span := range slices.Backward(spans) {
		if span[1]-span[0] >= best[1]-best[0] {
			best = span
		}
	}
	if len(spans) == 0 {
		return 0, 0, false
	}
	return best[0], best[1], true
}

// cover goes through all covers from the greatest one on, as each greater one does it too.
func (g *rainfall) cover(b impl.Brine, area int, day int, limit int) (int, bool) {
	best, found := 0, false
	for cover := greatestCover; cover >= 0; cover-- {
		if wet, ok := g.wet(b, area, cover, day); ok && wet.Water <= limit {
			best, found = cover, true
		}
	}
	return best, found
}

// wettest goes through the days from the last one on.
func (g *rainfall) wettest() (int, bool) {
	best := lastDay
	for day := lastDay; day >= 0; day-- {
		if g[day] >= g[best] {
			best = day
		}
	}
	if g[best] == 0 {
		return 0, false
	}
	return best, true
}

// rainBrines are Brines with and without Water, Salt and room for more.
var rainBrines = []impl.Brine{
	{}, {Water: 900, Salt: 100}, {Water: 1}, {Salt: 1}, {Water: 7, Salt: 5}, {Salt: impl.MaxWater}, {Water: 654321, Salt: 12345}, {Water: impl.MaxWater - 1, Salt: 3}, {Water: impl.MaxWater - 150, Salt: 9},
	{Water: impl.MaxWater}, {Water: impl.MaxWater, Salt: impl.MaxWater},
}

var rainAreas = []int{1, 2, 3, 99, 100, 101, 777, 5000, 99999, greatestArea}

var rainCovers = []int{0, 1, 2, 33, 34, 49, 50, 51, 66, 67, 98, 99, greatestCover}

// checkFallen holds what falls on an area against the days.
func checkFallen(t *testing.T, list []impl.Shower, grams *rainfall, area int) {
	t.Helper()
	days := daysAround(list)
	for _, from := range days {
		fallen, ok := impl.RainOnArea(list, area, from)
		wantInt(t, fmt.Sprint("RainOnArea ", list, area, from), fallen, ok, grams.on(area, from), true)
		sum, next := 0, from
		for _, to := range days {
			for ; next <= to; next++ {
				if grams[next] > 0 {
					sum += grams.on(area, next)
				}
			}
			got, ok := impl.RainBetween(list, area, from, to)
			wantInt(t, fmt.Sprint("RainBetween ", list, area, from, to), got, ok, sum, true)
		}
	}
}

// checkWetted holds a Brine after the rain of a day against the rule.
func checkWetted(t *testing.T, list []impl.Shower, grams *rainfall, b impl.Brine, area int, day int) {
	t.Helper()
	for _, cover := range rainCovers {
		got, ok := impl.AfterRain(list, b, area, cover, day)
		want, wantOK := grams.wet(b, area, cover, day)
		wantBrine(t, fmt.Sprint("AfterRain ", list, b, area, cover, day), got, ok, want, wantOK)
	}
}

// checkCover holds a smallest cover against all of them, and against the Brine with it and with one less and more.
func checkCover(t *testing.T, list []impl.Shower, grams *rainfall, b impl.Brine, area int, day int, limit int) {
	t.Helper()
	call := fmt.Sprint("CoverNeeded ", list, b, area, day, limit)
	cover, ok := impl.CoverNeeded(list, b, area, day, limit)
	want, wantOK := grams.cover(b, area, day, limit)
	wantInt(t, call, cover, ok, want, wantOK)
	if !ok {
		if all, done := impl.AfterRain(list, b, area, greatestCover, day); done && all.Water <= limit {
			t.Error(call, "tells none, but all of the rain can be kept away")
		}
		return
	}
	for _, c := range []int{cover - 1, cover, cover + 1} {
		wet, done := impl.AfterRain(list, b, area, c, day)
		if c >= 0 && c <= greatestCover && (done && wet.Water <= limit) != (c >= cover) {
			t.Error(call, "tells", cover, "but with", c, "there is", wet, done)
		}
	}
}

// limitsOf are limits at and around the Water before and after the rain.
func limitsOf(b impl.Brine, fallen int) []int {
	limits := []int{0, 1, impl.MaxWater - 1, impl.MaxWater, impl.MaxWater + 1, math.MaxInt}
	for _, part := range []int{0, fallen / 100, fallen / 3, fallen / 2, fallen - fallen/100, fallen} {
		for _, limit := range []int{b.Water + part - 1, b.Water + part, b.Water + part + 1} {
			if limit >= 0 {
				limits = append(limits, limit)
			}
		}
	}
	return limits
}

// checkDry holds the spans without rain against the days, and the longest one against them.
func checkDry(t *testing.T, list []impl.Shower, grams *rainfall, from int, to int) {
	t.Helper()
	want := [][2]int{}
	if from <= to {
		want = grams.dry(from, to)
	}
	spans, ok := impl.DrySpans(list, from, to)
	wantSpans(t, fmt.Sprint("DrySpans ", list, from, to), spans, ok, want, from <= to)
	first, last, ok := impl.LongestDry(list, from, to)
	wantFirst, wantLast, wantOK := longest(want)
	wantTwo(t, fmt.Sprint("LongestDry ", list, from, to), first, last, ok, wantFirst, wantLast, wantOK)
}

// netBy lets the sun dry a Brine with a mass and then the rain wet it.
func netBy(grams *rainfall, rates *calendar, b impl.Brine, area int, day int) (impl.Brine, bool) {
	if massOf(b) > 0 {
		b.Water -= exactLoss(rates[day], b, area)
	}
	return grams.wet(b, area, 0, day)
}

// sunsNear are lists with Suns on days with rain, on days without, or on none.
func sunsNear(list []impl.Shower) [][]impl.Sun {
	suns := [][]impl.Sun{nil, sunsOf(0, 5000, lastDay, 777)}
	for _, rate := range []int{0, 1, 3333, greatestRate} {
		same, next := []impl.Sun{}, []impl.Sun{}
		for i, s := range list {
			same = append(same, impl.Sun{Day: s.Day, Rate: rate})
			if i%2 == 0 && s.Day < lastDay {
				next = append(next, impl.Sun{Day: s.Day + 1, Rate: rate})
			}
		}
		suns = append(suns, same, next)
	}
	return suns
}

// expectNoFall wants the zero values of what falls on an area.
func expectNoFall(t *testing.T, list []impl.Shower, area int, day int) {
	t.Helper()
	call := fmt.Sprint(" ", startOf(list), area, day)
	fallen, ok := impl.RainOnArea(list, area, day)
	wantInt(t, "RainOnArea"+call, fallen, ok, 0, false)
	for _, other := range []int{0, 5, lastDay} {
		sum, ok := impl.RainBetween(list, area, day, other)
		wantInt(t, "RainBetween from"+call, sum, ok, 0, false)
		sum, ok = impl.RainBetween(list, area, other, day)
		wantInt(t, "RainBetween to"+call, sum, ok, 0, false)
	}
}

// expectNoWetting wants the zero values of what becomes of a Brine.
func expectNoWetting(t *testing.T, list []impl.Shower, b impl.Brine, area int, day int) {
	t.Helper()
	call := fmt.Sprint(" ", startOf(list), b, area, day)
	for _, cover := range []int{0, 1, 50, greatestCover} {
		wet, ok := impl.AfterRain(list, b, area, cover, day)
		wantBrine(t, fmt.Sprint("AfterRain", call, cover), wet, ok, impl.Brine{}, false)
	}
	for _, limit := range goals {
		cover, ok := impl.CoverNeeded(list, b, area, day, limit)
		wantInt(t, fmt.Sprint("CoverNeeded", call, limit), cover, ok, 0, false)
	}
	for _, suns := range [][]impl.Sun{nil, sunsOf(0, 5000, 5, 0, lastDay, greatestRate)} {
		net, ok := impl.NetOn(list, suns, b, area, day)
		wantBrine(t, fmt.Sprint("NetOn", call, suns), net, ok, impl.Brine{}, false)
	}
}

func expectNoDry(t *testing.T, list []impl.Shower, from int, to int) {
	t.Helper()
	call := fmt.Sprint(" ", startOf(list), from, to)
	spans, ok := impl.DrySpans(list, from, to)
	wantSpans(t, "DrySpans"+call, spans, ok, nil, false)
	first, last, ok := impl.LongestDry(list, from, to)
	wantTwo(t, "LongestDry"+call, first, last, ok, 0, 0, false)
}

func TestAreShowers(t *testing.T) {
	for _, list := range goodShowers() {
		list, check := guardedShowers(t, list)
		if !impl.AreShowers(list) {
			t.Error("Showers:", list)
		}
		check()
	}
	for _, list := range badShowers() {
		list, check := guardedShowers(t, list)
		if impl.AreShowers(list) {
			t.Error("no Showers:", startOf(list))
		}
		check()
	}
	for n := 0; n <= 24; n++ {
		want := n <= impl.MaxRain
		if impl.AreShowers(showery(n, 0, 1, 1)) != want || impl.AreShowers(showery(n, 4001-n, 1, greatestGrams)) != want {
			t.Error(n, "are Showers: not", want)
		}
	}
}

// TestAreShowersOfAllNumbers tries each number of a Shower apart from the other one, and all orders of two Days.
func TestAreShowersOfAllNumbers(t *testing.T) {
	for n := -20; n <= greatestGrams+20; n++ {
		if want := n >= 0 && n <= lastDay; impl.AreShowers(showersOf(n, 5)) != want {
			t.Error(n, "is a Day: not", want)
		}
		if want := n >= 1 && n <= greatestGrams; impl.AreShowers(showersOf(5, n)) != want {
			t.Error(n, "are Grams: not", want)
		}
	}
	for a := range 60 {
		for b := range 60 {
			if impl.AreShowers(showersOf(a, 60-a, b, b+1)) != (a < b) || impl.AreShowers(showersOf(lastDay-a, 9, lastDay-b, 9)) != (a > b) {
				t.Error("the order of two Days", a, b)
			}
		}
	}
}

func TestFallenRain(t *testing.T) {
	r := rand.New(rand.NewPCG(9, 27))
	for i, list := range goodShowers() {
		list, check := guardedShowers(t, list)
		grams := rainfallOf(list)
		areas := []int{1 + r.IntN(1000), 1 + r.IntN(greatestArea)}
		if i < len(handShowers()) {
			areas = rainAreas
		}
		for _, area := range areas {
			checkFallen(t, list, grams, area)
		}
		day, ok := impl.WettestDay(list)
		want, wantOK := grams.wettest()
		wantInt(t, fmt.Sprint("WettestDay ", list), day, ok, want, wantOK)
		check()
	}
}

func TestBrinesInTheRain(t *testing.T) {
	r := rand.New(rand.NewPCG(9, 28))
	for _, list := range goodShowers() {
		list, check := guardedShowers(t, list)
		grams, days := rainfallOf(list), daysAround(list)
		for _, b := range append([]impl.Brine{brine(r.IntN(1000), r.IntN(1000)), brine(r.IntN(impl.MaxWater+1), r.IntN(impl.MaxWater+1))}, rainBrines...) {
			for _, area := range []int{rainAreas[r.IntN(len(rainAreas))], 1 + r.IntN(1000)} {
				for _, day := range []int{days[0], days[r.IntN(len(days))], days[r.IntN(len(days))], days[len(days)-1]} {
					checkWetted(t, list, grams, b, area, day)
				}
			}
		}
		check()
	}
}

// TestNoKilogramIsLost has all covers and many kilograms of rain: what is kept away is rounded up.
func TestNoKilogramIsLost(t *testing.T) {
	for fallen := 0; fallen <= greatestGrams/1000; fallen++ {
		for _, extra := range []int{0, 1, 999} {
			grams := fallen*1000 + extra
			if grams < 1 || grams > greatestGrams {
				continue
			}
			for cover := 0; cover <= greatestCover; cover++ {
				away := 0
				for away*100 < fallen*cover {
					away++
				}
				list := showersOf(7, grams)
				got, ok := impl.AfterRain(list, brine(900, 100), 1, cover, 7)
				wantBrine(t, fmt.Sprint("AfterRain ", list, cover), got, ok, brine(900+fallen-away, 100), true)
			}
		}
	}
}

// TestRainPromise: with each greater cover not more Water comes into a Brine, and the Salt stays.
func TestRainPromise(t *testing.T) {
	r := rand.New(rand.NewPCG(9, 29))
	for _, list := range goodShowers() {
		days := daysAround(list)
		for _, b := range append([]impl.Brine{brine(r.IntN(impl.MaxWater+1), r.IntN(impl.MaxWater+1))}, rainBrines...) {
			area, day := 1+r.IntN([]int{3, 1000, greatestArea}[r.IntN(3)]), days[r.IntN(len(days))]
			if len(list) > 0 && r.IntN(3) > 0 {
				day = list[r.IntN(len(list))].Day
			}
			fallen, _ := impl.RainOnArea(list, area, day)
			least, valid := fallen, false
			for cover := 0; cover <= greatestCover; cover++ {
				wet, ok := impl.AfterRain(list, b, area, cover, day)
				in := wet.Water - b.Water
				if valid && !ok || ok && (in > least || in < 0 || wet.Salt != b.Salt) || ok && cover == 0 && in != fallen {
					t.Fatal("AfterRain", list, b, area, cover, day, "got", wet, ok, "but a smaller cover let in", least, "of", fallen)
				}
				if ok {
					least, valid = in, true
				}
			}
			if !valid || least != 0 {
				t.Error("AfterRain", list, b, area, greatestCover, day, "lets in", least)
			}
		}
	}
}

func TestCovers(t *testing.T) {
	r := rand.New(rand.NewPCG(9, 30))
	for _, list := range goodShowers() {
		list, check := guardedShowers(t, list)
		grams, days := rainfallOf(list), daysAround(list)
		for range 3 {
			b, day := rainBrines[r.IntN(len(rainBrines))], days[r.IntN(len(days))]
			area := 1 + r.IntN([]int{3, 100, 1000, greatestArea}[r.IntN(4)])
			if len(list) > 0 && r.IntN(4) > 0 {
				day = list[r.IntN(len(list))].Day
			}
			for _, limit := range limitsOf(b, grams.on(area, day)) {
				checkCover(t, list, grams, b, area, day, limit)
			}
		}
		check()
	}
}

// TestCoversOfAllLimits has every limit from no Water to more than comes in.
func TestCoversOfAllLimits(t *testing.T) {
	for _, fallen := range []int{0, 1, 2, 3, 50, 99, 100, 101, 150, 200} {
		list := showersOf(7, max(fallen*1000, 999))
		for _, b := range []impl.Brine{{}, brine(0, 5), brine(10, 5), brine(impl.MaxWater-60, 5), brine(impl.MaxWater, 0)} {
			for limit := max(b.Water-3, 0); limit <= b.Water+fallen+3; limit++ {
				checkCover(t, list, rainfallOf(list), b, 1, 7, limit)
			}
		}
	}
}

func TestDryDays(t *testing.T) {
	for _, list := range goodShowers() {
		list, check := guardedShowers(t, list)
		grams := rainfallOf(list)
		days := daysAround(list)
		for _, from := range days {
			for i := 0; i < len(days); i += 1 + len(days)/20 {
				checkDry(t, list, grams, from, days[i])
			}
			checkDry(t, list, grams, from, days[len(days)-1])
			checkDry(t, list, grams, days[0], from)
			checkDry(t, list, grams, from, from)
		}
		check()
	}
}

// TestDryDaysOfAllWeeks has rain on every choice of eight days, at the start, in between and at the end of all days.
func TestDryDaysOfAllWeeks(t *testing.T) {
	for rain := range 1 << 8 {
		for _, start := range []int{0, 2000, lastDay - 7} {
			list := []impl.Shower{}
			for i := range 8 {
				if rain>>i&1 == 1 {
					list = append(list, impl.Shower{Day: start + i, Grams: 1 + i})
				}
			}
			grams := rainfallOf(list)
			for from := start; from < start+8; from++ {
				for to := start; to < start+8; to++ {
					checkDry(t, list, grams, from, to)
				}
			}
			checkDry(t, list, grams, 0, lastDay)
		}
	}
}

func TestSunAndRain(t *testing.T) {
	r := rand.New(rand.NewPCG(9, 31))
	for i, list := range goodShowers() {
		list, check := guardedShowers(t, list)
		grams, days := rainfallOf(list), daysAround(list)
		for _, suns := range append(sunsNear(list), randomSuns(r)) {
			suns, checkSuns := guardedSuns(t, suns)
			rates := calendarOf(suns)
			for _, b := range rainBrines {
				area, day := 1+r.IntN([]int{3, 1000, greatestArea}[i%3]), days[r.IntN(len(days))]
				for _, d := range []int{day, days[0], days[len(days)-1]} {
					got, ok := impl.NetOn(list, suns, b, area, d)
					want, wantOK := netBy(grams, rates, b, area, d)
					wantBrine(t, fmt.Sprint("NetOn ", list, suns, b, area, d), got, ok, want, wantOK)
				}
			}
			checkSuns()
		}
		check()
	}
}

func TestNoShowers(t *testing.T) {
	for _, list := range badShowers() {
		list, check := guardedShowers(t, list)
		for _, day := range []int{0, 5, lastDay} {
			expectNoFall(t, list, 100, day)
			expectNoDry(t, list, 0, day)
			expectNoDry(t, list, day, lastDay)
			expectNoDry(t, list, day, 4)
			for _, b := range []impl.Brine{{}, brine(900, 100), brine(impl.MaxWater, 0)} {
				expectNoWetting(t, list, b, 100, day)
			}
		}
		day, ok := impl.WettestDay(list)
		wantInt(t, fmt.Sprint("WettestDay ", startOf(list)), day, ok, 0, false)
		check()
	}
}

// TestNetOnOfNoSuns wants valid Suns also for a Brine from which nothing evaporates, and on a day without any Sun.
func TestNetOnOfNoSuns(t *testing.T) {
	for _, suns := range badSuns() {
		suns, check := guardedSuns(t, suns)
		for _, rains := range [][]impl.Shower{nil, showersOf(5, 2000), showersOf(0, 1, lastDay, 1)} {
			for _, b := range []impl.Brine{{}, brine(900, 100), brine(0, 100)} {
				for _, day := range []int{0, 5, 2000, lastDay} {
					net, ok := impl.NetOn(rains, suns, b, 100, day)
					wantBrine(t, fmt.Sprint("NetOn ", rains, suns[:min(len(suns), 22)], b, day), net, ok, impl.Brine{}, false)
				}
			}
		}
		check()
	}
}

func TestRainWithWrongNumbers(t *testing.T) {
	for _, list := range handShowers() {
		list, check := guardedShowers(t, list)
		for _, area := range badAreas {
			for _, day := range []int{0, 5, lastDay} {
				expectNoFall(t, list, area, day)
				expectNoWetting(t, list, brine(900, 100), area, day)
				expectNoWetting(t, list, impl.Brine{}, area, day)
			}
		}
		for _, day := range badDays {
			expectNoFall(t, list, 100, day)
			expectNoWetting(t, list, brine(900, 100), 100, day)
			expectNoWetting(t, list, impl.Brine{}, 100, day)
			for _, other := range badDays {
				sum, ok := impl.RainBetween(list, 100, day, other)
				wantInt(t, fmt.Sprint("RainBetween ", list, day, other), sum, ok, 0, false)
			}
		}
		for _, b := range noBrines {
			for _, day := range []int{0, 5, lastDay} {
				expectNoWetting(t, list, b, 1, day)
			}
		}
		for _, span := range backwards {
			expectNoDry(t, list, span[0], span[1])
		}
		check()
	}
}

func TestWrongCoversAndLimits(t *testing.T) {
	for _, list := range handShowers() {
		for _, b := range rainBrines {
			for _, day := range []int{0, 5, lastDay} {
				for _, cover := range badCovers {
					wet, ok := impl.AfterRain(list, b, 100, cover, day)
					wantBrine(t, fmt.Sprint("AfterRain ", list, b, cover, day), wet, ok, impl.Brine{}, false)
				}
				for _, limit := range badLimits {
					cover, ok := impl.CoverNeeded(list, b, 100, day, limit)
					wantInt(t, fmt.Sprint("CoverNeeded ", list, b, day, limit), cover, ok, 0, false)
				}
			}
		}
	}
}

func TestRainOnArea(t *testing.T) {
	for _, c := range []struct{ grams, area, want int }{
		{2000, 100, 200}, {1, 1, 0}, {999, 1, 0}, {1000, 1, 1}, {1999, 1, 1}, {2000, 1, 2}, {1, 999, 0}, {1, 1000, 1}, {333, 3, 0}, {334, 3, 1}, {1, greatestArea, 100},
		{greatestGrams, 1, 200}, {greatestGrams, greatestArea, 20000000}, {199999, 99999, 19999700}, {199999, 1, 199},
	} {
		for _, day := range []int{0, 9, lastDay} {
			list := showersOf(day, c.grams)
			fallen, ok := impl.RainOnArea(list, c.area, day)
			wantInt(t, fmt.Sprint("RainOnArea ", list, c.area), fallen, ok, c.want, true)
			fallen, ok = impl.RainOnArea(list, c.area, 10)
			wantInt(t, fmt.Sprint("RainOnArea of a day without rain ", list, c.area), fallen, ok, 0, true)
		}
	}
}

func TestAfterRain(t *testing.T) {
	for _, c := range []struct {
		grams       int
		b           impl.Brine
		area, cover int
		water       int
		ok          bool
	}{
		{2000, brine(900, 100), 100, 0, 1100, true}, {2000, brine(900, 100), 100, 50, 1000, true}, {2000, brine(900, 100), 100, 100, 900, true}, {2000, brine(900, 100), 100, 1, 1098, true}, {2000, brine(900, 100), 100, 99, 902, true},
		// What is kept away of one, two and three kilograms is rounded up.
		{1000, brine(900, 100), 1, 0, 901, true}, {1000, brine(900, 100), 1, 1, 900, true}, {1000, brine(900, 100), 1, 99, 900, true}, {1000, brine(900, 100), 1, 100, 900, true}, {2000, brine(900, 100), 1, 1, 901, true}, {2000, brine(900, 100), 1, 50, 901, true}, {2000, brine(900, 100), 1, 51, 900, true},
		{3000, brine(900, 100), 1, 33, 902, true}, {3000, brine(900, 100), 1, 34, 901, true}, {3000, brine(900, 100), 1, 66, 901, true}, {3000, brine(900, 100), 1, 67, 900, true}, {1000, brine(900, 100), 100, 1, 999, true}, {1000, brine(900, 100), 101, 1, 999, true}, {1000, brine(900, 100), 101, 99, 901, true}, {1000, brine(900, 100), 100, 99, 901, true},
		// Rain that is rounded down to nothing.
		{999, brine(900, 100), 1, 0, 900, true}, {999, brine(900, 100), 1, 1, 900, true}, {1, brine(900, 100), 999, 0, 900, true}, {1, brine(impl.MaxWater, 5), 999, 0, impl.MaxWater, true}, {1999, brine(900, 100), 1, 0, 901, true}, {1999, brine(900, 100), 1, 1, 900, true},
		// Too much Water, and covers that just prevent it.
		{1000, brine(impl.MaxWater, 0), 1, 0, 0, false}, {1000, brine(impl.MaxWater, 0), 1, 1, impl.MaxWater, true}, {1000, brine(impl.MaxWater-1, 0), 1, 0, impl.MaxWater, true}, {2000, brine(999900, 5), 100, 0, 0, false}, {2000, brine(999900, 5), 100, 49, 0, false}, {2000, brine(999900, 5), 100, 50, impl.MaxWater, true}, {2000, brine(999900, 5), 100, 51, 999998, true},
		{2000, brine(impl.MaxWater, 7), 100, 99, 0, false}, {2000, brine(impl.MaxWater, 7), 100, 100, impl.MaxWater, true}, {greatestGrams, brine(0, 0), greatestArea, 95, impl.MaxWater, true}, {greatestGrams, brine(0, 0), greatestArea, 94, 0, false}, {greatestGrams, brine(1, 0), greatestArea, 95, 0, false}, {greatestGrams, brine(1, 0), greatestArea, 96, 800001, true},
		{greatestGrams, brine(0, 0), greatestArea, 0, 0, false}, {greatestGrams, brine(0, 0), 5000, 0, impl.MaxWater, true}, {greatestGrams, brine(0, 0), 5001, 0, 0, false}, {greatestGrams, brine(0, 0), greatestArea, 100, 0, true},
		// Brines without a mass, or with Salt alone.
		{2000, brine(0, 0), 100, 0, 200, true}, {2000, brine(0, 0), 100, 100, 0, true}, {2000, brine(0, impl.MaxWater), 100, 0, 200, true}, {2000, brine(0, 1), 100, 75, 50, true},
	} {
		for _, day := range []int{0, 9, lastDay} {
			list, want := showersOf(day, c.grams), impl.Brine{}
			if c.ok {
				want = brine(c.water, c.b.Salt)
			}
			got, ok := impl.AfterRain(list, c.b, c.area, c.cover, day)
			wantBrine(t, fmt.Sprint("AfterRain ", list, c.b, c.area, c.cover), got, ok, want, c.ok)
			got, ok = impl.AfterRain(list, c.b, c.area, c.cover, 10)
			wantBrine(t, fmt.Sprint("AfterRain of a day without rain ", list, c.b, c.area, c.cover), got, ok, c.b, true)
		}
	}
}

func TestRainBetween(t *testing.T) {
	list := showersOf(0, 1500, 2, 999, 3, 1999, lastDay, greatestGrams)
	for _, c := range []struct{ area, from, to, want int }{
		// Each day is rounded down by itself: of 1.5, 0.999 and 1.999 there are 1, 0 and 1.
		{1, 0, 0, 1}, {1, 0, 1, 1}, {1, 0, 2, 1}, {1, 0, 3, 2}, {1, 2, 3, 1}, {1, 2, 2, 0}, {1, 3, 3, 1}, {1, 1, 1, 0}, {1, 1, 2, 0}, {1, 0, lastDay, 202}, {1, 0, 3999, 2}, {1, 4, 3999, 0}, {1, lastDay, lastDay, 200}, {1, 3999, lastDay, 200}, {1, 1, lastDay, 201},
		{3, 0, 0, 4}, {3, 0, 2, 6}, {3, 0, 3, 11}, {3, 2, 3, 7}, {3, 0, lastDay, 611}, {1000, 0, 3, 4498}, {greatestArea, lastDay, lastDay, 20000000}, {greatestArea, 0, lastDay, 20449800},
		{1, 1, 0, 0}, {1, 3, 2, 0}, {1, 3, 0, 0}, {1, lastDay, 0, 0}, {1, lastDay, 3999, 0}, {greatestArea, 2, 0, 0},
	} {
		sum, ok := impl.RainBetween(list, c.area, c.from, c.to)
		wantInt(t, fmt.Sprint("RainBetween ", c.area, c.from, c.to), sum, ok, c.want, true)
	}
	sum, ok := impl.RainBetween(showery(impl.MaxRain, 0, 200, greatestGrams), greatestArea, 0, lastDay)
	wantInt(t, "RainBetween of all", sum, ok, 400000000, true)
	sum, ok = impl.RainBetween(showery(impl.MaxRain, 0, 200, 999), 1, 0, lastDay)
	wantInt(t, "RainBetween of little", sum, ok, 0, true)
	sum, ok = impl.RainBetween(nil, 1, 0, lastDay)
	wantInt(t, "RainBetween without rain", sum, ok, 0, true)
}

func TestDrySpans(t *testing.T) {
	one, some := showersOf(5, 2000), showersOf(0, 1, 1, 1, 3, 1, 4, 1, lastDay, 1)
	for _, c := range []struct {
		list     []impl.Shower
		from, to int
		want     [][2]int
	}{
		{one, 3, 8, [][2]int{{3, 4}, {6, 8}}}, {one, 0, lastDay, [][2]int{{0, 4}, {6, lastDay}}}, {one, 0, 3, [][2]int{{0, 3}}}, {one, 0, 4, [][2]int{{0, 4}}}, {one, 0, 5, [][2]int{{0, 4}}}, {one, 4, 6, [][2]int{{4, 4}, {6, 6}}}, {one, 6, 8, [][2]int{{6, 8}}}, {one, 7, 8, [][2]int{{7, 8}}},
		// Rain on the first day, on the last day, and on the only one.
		{one, 5, 8, [][2]int{{6, 8}}}, {one, 5, 6, [][2]int{{6, 6}}}, {one, 4, 5, [][2]int{{4, 4}}}, {one, 5, 5, nil}, {one, 4, 4, [][2]int{{4, 4}}}, {one, 6, 6, [][2]int{{6, 6}}}, {one, lastDay, lastDay, [][2]int{{lastDay, lastDay}}},
		// Days one after the other.
		{some, 0, lastDay, [][2]int{{2, 2}, {5, 3999}}}, {some, 0, 0, nil}, {some, 0, 1, nil}, {some, 0, 2, [][2]int{{2, 2}}}, {some, 1, 3, [][2]int{{2, 2}}}, {some, 2, 2, [][2]int{{2, 2}}}, {some, 3, 4, nil}, {some, 3, 5, [][2]int{{5, 5}}}, {some, 4, 3999, [][2]int{{5, 3999}}}, {some, lastDay, lastDay, nil}, {some, 3999, lastDay, [][2]int{{3999, 3999}}},
		{nil, 0, 0, [][2]int{{0, 0}}}, {nil, 0, lastDay, [][2]int{{0, lastDay}}}, {nil, 7, 9, [][2]int{{7, 9}}}, {nil, lastDay, lastDay, [][2]int{{lastDay, lastDay}}}, {showery(impl.MaxRain, 50, 1, 7), 50, 69, nil}, {showery(impl.MaxRain, 50, 1, 7), 49, 70, [][2]int{{49, 49}, {70, 70}}}, {showery(3, 2, 2, 7), 1, 7, [][2]int{{1, 1}, {3, 3}, {5, 5}, {7, 7}}},
	} {
		spans, ok := impl.DrySpans(c.list, c.from, c.to)
		wantSpans(t, fmt.Sprint("DrySpans ", c.list, c.from, c.to), spans, ok, c.want, true)
	}
	spans, ok := impl.DrySpans(showery(impl.MaxRain, 1, 2, 1), 0, lastDay)
	if last := len(spans) - 1; !ok || last != impl.MaxRain || spans[0] != [2]int{0, 0} || spans[last] != [2]int{40, lastDay} {
		t.Error("DrySpans: the most spans", spans, ok)
	}
}

func TestLongestDry(t *testing.T) {
	even := showersOf(5, 1, 10, 1)
	for _, c := range []struct {
		list        []impl.Shower
		from, to    int
		first, last int
		ok          bool
	}{
		{showersOf(5, 2000), 3, 8, 6, 8, true}, {showersOf(5, 2000), 5, 5, 0, 0, false}, {showersOf(5, 2000), 1, 7, 1, 4, true}, {showersOf(5, 2000), 4, 6, 4, 4, true}, {showersOf(5, 2000), 0, lastDay, 6, lastDay, true}, {showersOf(3995, 1), 0, lastDay, 0, 3994, true},
		// Spans of equal length.
		{even, 1, 14, 1, 4, true}, {even, 2, 14, 6, 9, true}, {even, 2, 15, 11, 15, true}, {even, 0, 14, 0, 4, true}, {even, 0, 15, 0, 4, true}, {even, 0, 16, 11, 16, true}, {even, 4, 11, 6, 9, true}, {even, 5, 14, 6, 9, true}, {even, 7, 13, 7, 9, true}, {even, 8, 12, 8, 9, true},
		{showersOf(1, 1, 3, 1), 0, 4, 0, 0, true}, {showersOf(0, 1, 2, 1), 0, 3, 1, 1, true}, {showersOf(0, 1, 1, 1), 0, 1, 0, 0, false}, {showersOf(0, 1), 0, 0, 0, 0, false}, {showersOf(lastDay, 1), lastDay, lastDay, 0, 0, false}, {showersOf(lastDay, 1), 0, lastDay, 0, 3999, true}, {showery(impl.MaxRain, 50, 1, 7), 50, 69, 0, 0, false},
		{showery(impl.MaxRain, 50, 1, 7), 50, 70, 70, 70, true}, {nil, 0, 0, 0, 0, true}, {nil, 0, lastDay, 0, lastDay, true}, {nil, 9, 9, 9, 9, true}, {showersOf(1, 1), 0, 0, 0, 0, true},
	} {
		first, last, ok := impl.LongestDry(c.list, c.from, c.to)
		wantTwo(t, fmt.Sprint("LongestDry ", c.list, c.from, c.to), first, last, ok, c.first, c.last, c.ok)
	}
}

func TestCoverNeeded(t *testing.T) {
	for _, c := range []struct {
		grams, area int
		b           impl.Brine
		limit       int
		want        int
		ok          bool
	}{
		{2000, 100, brine(900, 100), 950, 75, true}, {2000, 100, brine(900, 100), 951, 75, true}, {2000, 100, brine(900, 100), 952, 74, true}, {2000, 100, brine(900, 100), 949, 76, true}, {2000, 100, brine(900, 100), 1097, 2, true}, {2000, 100, brine(900, 100), 1098, 1, true}, {2000, 100, brine(900, 100), 1099, 1, true},
		// A cover of 0, one of 100, and none.
		{2000, 100, brine(900, 100), 1100, 0, true}, {2000, 100, brine(900, 100), 1101, 0, true}, {2000, 100, brine(900, 100), impl.MaxWater + 1, 0, true}, {2000, 100, brine(900, 100), math.MaxInt, 0, true}, {2000, 100, brine(900, 100), 902, 99, true}, {2000, 100, brine(900, 100), 901, 100, true}, {2000, 100, brine(900, 100), 900, 100, true},
		{2000, 100, brine(900, 100), 899, 0, false}, {2000, 100, brine(900, 100), 0, 0, false}, {2000, 100, brine(0, 100), 0, 100, true}, {2000, 100, brine(0, 0), 0, 100, true}, {2000, 100, brine(1, 0), 0, 0, false}, {2000, 100, brine(0, 0), 1, 100, true}, {2000, 100, brine(0, 0), 2, 99, true},
		// Few kilograms, of which a small cover keeps some away.
		{1000, 1, brine(900, 100), 900, 1, true}, {1000, 1, brine(900, 100), 901, 0, true}, {3000, 1, brine(900, 100), 902, 1, true}, {3000, 1, brine(900, 100), 901, 34, true}, {3000, 1, brine(900, 100), 900, 67, true}, {999, 1, brine(900, 100), 900, 0, true}, {999, 1, brine(900, 100), 899, 0, false}, {1, 999, brine(0, 0), 0, 0, true},
		// Without a cover there would be too much Water, whatever the limit is.
		{2000, 100, brine(999900, 5), math.MaxInt, 50, true}, {2000, 100, brine(999900, 5), impl.MaxWater, 50, true}, {2000, 100, brine(999900, 5), impl.MaxWater + 100, 50, true}, {2000, 100, brine(999900, 5), 999999, 51, true}, {1000, 1, brine(impl.MaxWater, 0), math.MaxInt, 1, true}, {2000, 100, brine(impl.MaxWater, 0), math.MaxInt, 100, true},
		{greatestGrams, greatestArea, brine(0, 0), math.MaxInt, 95, true}, {greatestGrams, greatestArea, brine(1, 0), math.MaxInt, 96, true}, {greatestGrams, greatestArea, brine(0, 0), 999999, 96, true}, {greatestGrams, greatestArea, brine(0, 0), 0, 100, true}, {greatestGrams, greatestArea, brine(5, 5), 4, 0, false},
	} {
		for _, day := range []int{0, 9, lastDay} {
			list := showersOf(day, c.grams)
			cover, ok := impl.CoverNeeded(list, c.b, c.area, day, c.limit)
			wantInt(t, fmt.Sprint("CoverNeeded ", list, c.b, c.area, c.limit), cover, ok, c.want, c.ok)
			cover, ok = impl.CoverNeeded(list, c.b, c.area, 10, c.limit)
			wantInt(t, fmt.Sprint("CoverNeeded on a day without rain ", list, c.b, c.limit), cover, ok, 0, c.b.Water <= c.limit)
		}
	}
}

func TestNetOn(t *testing.T) {
	for _, c := range []struct {
		rain, sun int
		b         impl.Brine
		area      int
		water     int
		ok        bool
	}{
		// The sun comes first: after the rain it would take 458 of 1100.
		{2000, 5000, brine(900, 100), 100, 650, true}, {2000, 0, brine(900, 100), 100, 1100, true}, {1, 5000, brine(900, 100), 100, 450, true}, {999, 999, brine(900, 100), 1, 900, true}, {1000, 2000, brine(900, 100), 1, 900, true},
		// Nothing evaporates without a mass, and what is all gone comes back as rain.
		{2000, 5000, brine(0, 0), 100, 200, true}, {2000, greatestRate, brine(0, 0), greatestArea, 200000, true}, {2000, 5000, brine(500, 0), 100, 200, true}, {2000, 5000, brine(501, 0), 100, 201, true}, {2000, greatestRate, brine(900, 100), 100, 200, true}, {2000, 5000, brine(0, 100), 100, 200, true}, {999, 5000, brine(5, 0), 1, 0, true}, {greatestGrams, greatestRate, brine(impl.MaxWater, 0), 5000, 0, false},
		{greatestGrams, greatestRate, brine(100000, 0), 5000, impl.MaxWater, true}, {greatestGrams, greatestRate, brine(100001, 0), 5000, 0, false},
		// The sun makes room for the rain, or not enough of it.
		{1000, 1000, brine(impl.MaxWater, 0), 200, impl.MaxWater, true}, {1001, 1000, brine(impl.MaxWater, 0), 1000, 0, false}, {1000, 0, brine(impl.MaxWater, 0), 1, 0, false}, {1000, 1999, brine(impl.MaxWater, impl.MaxWater), 1, 0, false}, {1000, 2000, brine(impl.MaxWater, impl.MaxWater), 1, impl.MaxWater, true}, {999, 0, brine(impl.MaxWater, 5), 1, impl.MaxWater, true},
		{greatestGrams, 0, brine(0, 0), greatestArea, 0, false}, {greatestGrams, greatestRate, brine(0, 5), 5001, 0, false}, {greatestGrams, greatestRate, brine(0, 5), 5000, impl.MaxWater, true},
	} {
		for _, day := range []int{0, 9, lastDay} {
			rains, suns, want := showersOf(day, c.rain), sunsOf(day, c.sun), impl.Brine{}
			if c.ok {
				want = brine(c.water, c.b.Salt)
			}
			got, ok := impl.NetOn(rains, suns, c.b, c.area, day)
			wantBrine(t, fmt.Sprint("NetOn ", rains, suns, c.b, c.area), got, ok, want, c.ok)
			got, ok = impl.NetOn(rains, suns, c.b, c.area, 10)
			wantBrine(t, fmt.Sprint("NetOn without sun and rain ", rains, suns, c.b, c.area), got, ok, c.b, true)
		}
	}
	for day, water := range []int{1100, 450, 900} {
		got, ok := impl.NetOn(showersOf(0, 2000), sunsOf(1, 5000), brine(900, 100), 100, day)
		wantBrine(t, fmt.Sprint("NetOn on day ", day), got, ok, brine(water, 100), true)
	}
}

func TestWettestDay(t *testing.T) {
	for _, c := range []struct {
		list []impl.Shower
		want int
		ok   bool
	}{
		{nil, 0, false}, {showersOf(), 0, false}, {showersOf(0, 1), 0, true}, {showersOf(lastDay, greatestGrams), lastDay, true}, {showersOf(5, 1, 9, 2), 9, true}, {showersOf(5, 2, 9, 1), 5, true}, {showersOf(5, 1, 9, 2, 12, 1), 9, true},
		{showersOf(5, 7, 9, 7), 5, true}, {showersOf(5, 1, 9, 7, 12, 7, 13, 7), 9, true}, {showersOf(5, 7, 9, 1, 12, 7), 5, true}, {showersOf(5, 1, 9, 7, 12, 6, 13, 7), 9, true}, {showersOf(0, greatestGrams-1, lastDay, greatestGrams), lastDay, true}, {showersOf(0, greatestGrams, lastDay, greatestGrams), 0, true},
		{showery(impl.MaxRain, 3, 7, 5), 3, true}, {append(showery(impl.MaxRain-1, 3, 7, 5), showersOf(lastDay, 6)...), lastDay, true},
	} {
		day, ok := impl.WettestDay(c.list)
		wantInt(t, fmt.Sprint("WettestDay ", c.list), day, ok, c.want, c.ok)
	}
}

// TestRainResultsAreApart writes into the spans, also behind their end, and then into the argument.
func TestRainResultsAreApart(t *testing.T) {
	for _, list := range goodShowers() {
		argument, check := guardedShowers(t, list)
		grams := rainfallOf(list)
		for _, ends := range [][2]int{{0, lastDay}, {0, 0}, {3, 8}, {5, 60}, {3970, lastDay}} {
			want := grams.dry(ends[0], ends[1])
			spans, _ := impl.DrySpans(argument, ends[0], ends[1])
			again, _ := impl.DrySpans(argument, ends[0], ends[1])
			for i := range spans[:cap(spans)] {
				spans[:cap(spans)][i] = [2]int{-7, -7}
			}
			check()
			wantSpans(t, fmt.Sprint("DrySpans after another result was written into ", list, ends), again, true, want, true)
			clear(argument)
			wantSpans(t, fmt.Sprint("DrySpans after its argument was written into ", list, ends), again, true, want, true)
			copy(argument, list)
			later, ok := impl.DrySpans(argument, ends[0], ends[1])
			wantSpans(t, fmt.Sprint("DrySpans after its results were written into ", list, ends), later, ok, want, true)
		}
	}
}
