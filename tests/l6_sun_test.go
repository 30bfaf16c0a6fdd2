package tests

import (
	"fmt"
	"math"
	"math/big"
	"math/rand/v2"
	"slices"
	"testing"

	"loop.example/g01019/impl"
)

const (
	greatestRate = 20000
	greatestArea = 100000
)

// badRates are no Rates.
var badRates = []int{-1, -2, -20000, greatestRate + 1, greatestRate + 2, 1 << 32, math.MaxInt, math.MaxInt - 1, math.MinInt, math.MinInt + 1}

// badAreas are no areas; with some of them products wrap around.
var badAreas = []int{0, -1, -2, -100000, greatestArea + 1, greatestArea + 2, 1<<32 + 1, 1 << 60, math.MaxInt, math.MaxInt - 1, math.MinInt, math.MinInt + 1}

// badSpans are beyond the limits of BestStart.
var badSpans = []int{0, -1, -2, -100, 101, 102, lastDay, lastDay + 1, lastDay + 2, 1<<32 + 1, math.MaxInt, math.MaxInt - 1, math.MinInt, math.MinInt + 1}

// badStrengths are pairs of num and den.
var badStrengths = [][2]int{
	{0, 1}, {0, 0}, {1, 0}, {2, 1}, {-1, 1}, {1, -1}, {-1, -1}, {-1, -2}, {1000, 999}, {1, 1001}, {1001, 1001}, {1001, 1000}, {500, 1001}, {0, 1000},
	{1, 1<<32 + 1}, {math.MaxInt, math.MaxInt}, {math.MinInt, math.MinInt}, {1, math.MaxInt}, {math.MinInt, 1}, {1, math.MinInt}, {math.MaxInt, 1},
}

// backwards are spans of days that are ordered wrongly, or not all in 0..MaxDay.
var backwards = [][2]int{
	{1, 0}, {5, 4}, {lastDay, 0}, {lastDay, lastDay - 1}, {-1, 0}, {-1, -1}, {-2, -1}, {-1, lastDay}, {0, -1}, {0, lastDay + 1}, {lastDay, lastDay + 1},
	{lastDay + 1, lastDay + 1}, {lastDay + 1, lastDay}, {lastDay + 1, lastDay + 2}, {1 << 32, 1<<32 + 1}, {0, 1 << 32},
	{0, math.MaxInt}, {math.MinInt, 0}, {math.MinInt, math.MaxInt}, {math.MaxInt, math.MinInt}, {math.MaxInt, math.MaxInt}, {math.MinInt, math.MinInt},
}

// sunsOf returns Suns of pairs of a Day and a Rate.
func sunsOf(numbers ...int) []impl.Sun {
	list := []impl.Sun{}
	for i := 0; i < len(numbers); i += 2 {
		list = append(list, impl.Sun{Day: numbers[i], Rate: numbers[i+1]})
	}
	return list
}

// sunny returns n Suns of one Rate, so many days apart from one another.
func sunny(n int, day int, apart int, rate int) []impl.Sun {
	list := []impl.Sun{}
	for i := range n {
		list = append(list, impl.Sun{Day: day + i*apart, Rate: rate})
	}
	return list
}

func brine(water int, salt int) impl.Brine { return impl.Brine{Water: water, Salt: salt} }

// handSuns are lists with all that the chapter names.
func handSuns() [][]impl.Sun {
	return [][]impl.Sun{
		nil, {}, sunsOf(0, 0), sunsOf(0, greatestRate), sunsOf(lastDay, 0), sunsOf(lastDay, greatestRate), sunsOf(0, 1), sunsOf(lastDay, 1), sunsOf(2000, 777),
		sunsOf(0, 5000, 2, 3000), sunsOf(2, 3000), sunsOf(0, 5000, lastDay, 5000), sunsOf(0, greatestRate, lastDay, greatestRate), sunsOf(0, 4999, lastDay, 5000),
		sunsOf(1, 10, 99, 10, 100, 10, 101, 11, 200, 30, 3900, 30, 3999, 1), sunsOf(5, 0, 6, 0, 7, 0), sunsOf(99, 5, 100, 5), sunsOf(3900, 5, 3901, 5), sunsOf(3999, 7, lastDay, 7),
		sunsOf(10, 1, 11, 2, 12, 3, 13, 2, 14, 1), sunsOf(10, 3, 11, 2, 12, 1, 13, 2, 14, 3), sunsOf(10, 5, 20, 5, 30, 5, 40, 5), sunsOf(10, 5, 11, 0, 12, 5, 13, 0, 14, 5),
		sunny(impl.MaxSun, 0, 1, greatestRate), sunny(impl.MaxSun, 3981, 1, greatestRate), sunny(impl.MaxSun, 0, 1, 0), sunny(impl.MaxSun, 0, 1, 999),
		sunny(impl.MaxSun, 10, 5, 3333), sunny(impl.MaxSun, 200, 200, 1), sunny(impl.MaxSun-1, 7, 99, 4321), sunny(impl.MaxSun, 0, 100, 500),
	}
}

// randomSuns returns a list with Days near to each other or not, and few or all Rates.
func randomSuns(r *rand.Rand) []impl.Sun {
	rates, apart := []int{1, 3, 1000, greatestRate + 1}[r.IntN(4)], []int{1, 3, 60, 200}[r.IntN(4)]
	least := r.IntN(greatestRate + 2 - rates)
	list := []impl.Sun{}
	day := r.IntN(apart)
	if apart < 60 && r.IntN(2) == 0 {
		day += lastDay - 60
	}
	for range r.IntN(impl.MaxSun + 1) {
		if day <= lastDay {
			list = append(list, impl.Sun{Day: day, Rate: least + r.IntN(rates)})
		}
		day += 1 + r.IntN(apart)
	}
	return list
}

// goodSuns are the lists by hand, and others made by chance.
func goodSuns() [][]impl.Sun {
	lists := handSuns()
	r := rand.New(rand.NewPCG(6, 17))
	for range 150 {
		lists = append(lists, randomSuns(r))
	}
	return lists
}

// noSuns are Suns with a number that is beyond its limit.
func noSuns() []impl.Sun {
	list := []impl.Sun{}
	for _, day := range badDays {
		list = append(list, sunsOf(day, 0, day, greatestRate, day, 5)...)
	}
	for _, rate := range badRates {
		list = append(list, sunsOf(0, rate, 5, rate, lastDay, rate)...)
	}
	return append(list, sunsOf(-1, -1, lastDay+1, greatestRate+1, math.MinInt, math.MinInt, math.MaxInt, math.MaxInt)...)
}

// badSuns are lists that are no Suns.
func badSuns() [][]impl.Sun {
	lists := [][]impl.Sun{
		make([]impl.Sun, 2), make([]impl.Sun, impl.MaxSun), sunny(21, 0, 1, 5), sunny(22, 0, 1, 0), sunny(21, 0, 200, 5), sunny(1000, 0, 4, 20000),
		sunsOf(5, 1, 5, 1), sunsOf(5, 1, 5, 2), sunsOf(5, 1, 4, 1), sunsOf(1, 1, 2, 1, 2, 1), sunsOf(1, 1, 3, 1, 2, 1), sunsOf(1, 1, 3, 1, 1, 1), sunsOf(2, 1, 1, 1, 3, 1),
		sunsOf(lastDay, 1, 0, 1), sunsOf(0, 0, lastDay, 0, lastDay, 0), sunsOf(0, 1, 0, 1, lastDay, 1), sunny(impl.MaxSun, 100, -1, 5), sunny(impl.MaxSun, 100, 0, 5),
		sunsOf(3, 1, 2, 1, 1, 1), sunsOf(math.MaxInt, 1, math.MinInt, 1), sunsOf(math.MinInt, 0, math.MaxInt, 0), sunny(impl.MaxSun, 3982, 1, 5), sunny(impl.MaxSun, -1, 1, 5),
	}
	for _, s := range noSuns() {
		lists = append(lists, []impl.Sun{s}, append(sunsOf(0, 5, 1, 5), s), append([]impl.Sun{s}, sunsOf(lastDay-1, 5, lastDay, 5)...),
			slices.Concat(sunsOf(0, 5), []impl.Sun{s}, sunsOf(lastDay, 5)), append(sunny(impl.MaxSun-1, 0, 1, 5), s))
	}
	return lists
}

// guardedSuns returns the list as the start of a longer one, and what checks that neither changed.
func guardedSuns(t *testing.T, list []impl.Sun) ([]impl.Sun, func()) {
	backing := append(slices.Clone(list), sunsOf(4001, 20000, 3000, 20000, math.MinInt, math.MaxInt)...)
	before := slices.Clone(backing)
	return backing[:len(list)], func() {
		t.Helper()
		if !slices.Equal(backing, before) {
			t.Errorf("%v was changed to %v", before, backing)
		}
	}
}

func wantSuns(t *testing.T, call string, got []impl.Sun, ok bool, want []impl.Sun, wantOK bool) {
	t.Helper()
	if !slices.Equal(got, want) || ok != wantOK {
		t.Errorf("%s: got %v, %v, want %v, %v", call, got, ok, want, wantOK)
	}
}

// calendar has the Rate of each day.
type calendar [lastDay + 1]int

func calendarOf(list []impl.Sun) *calendar {
	rates := &calendar{}
	for _, s := range list {
		rates[s.Day] = s.Rate
	}
	return rates
}

// sum adds the Rates of from..to day by day.
func (c *calendar) sum(from int, to int) int {
	sum := 0
	for day := from; day <= to; day++ {
		sum += c[day]
	}
	return sum
}

// dry returns a Brine one day later.
func (c *calendar) dry(b impl.Brine, area int, day int) impl.Brine {
	if c[day] == 0 || massOf(b) == 0 {
		return b
	}
	fresh := c[day] * area / 1000
	loss := fresh * b.Water / massOf(b)
	if loss > b.Water {
		loss = b.Water
	}
	return brine(b.Water-loss, b.Salt)
}

// after goes through the days from..to.
func (c *calendar) after(b impl.Brine, area int, from int, to int) impl.Brine {
	for day := from; day <= to; day++ {
		b = c.dry(b, area, day)
	}
	return b
}

// strong goes through all days until there is a strength.
func (c *calendar) strong(b impl.Brine, area int, num int, den int) (int, bool) {
	for day := 0; day <= lastDay; day++ {
		b = c.dry(b, area, day)
		if massOf(b) > 0 && b.Salt*den >= num*massOf(b) {
			return day, true
		}
	}
	return 0, false
}

// best goes through all spans, the last one first.
func (c *calendar) best(days int) int {
	best, most := 0, -1
	sum := c.sum(lastDay-days+1, lastDay)
	for start := lastDay - days + 1; ; start-- {
		if sum >= most {
			best, most = start, sum
		}
		if start == 0 {
			return best
		}
		sum += c[start-1] - c[start+days-1]
	}
}

// daysOfNote are the ends of the days, and those at and around each Sun.
func daysOfNote(list []impl.Sun) []int {
	days := []int{0, 1, 2000, lastDay - 1, lastDay}
	for _, s := range list {
		for day := s.Day - 1; day <= s.Day+1; day++ {
			if day >= 0 && day <= lastDay {
				days = append(days, day)
			}
		}
	}
	slices.Sort(days)
	return slices.Compact(days)
}

// exactLoss follows the rule with fractions of any size.
func exactLoss(rate int, b impl.Brine, area int) int {
	fresh, _ := floorAndCeil(big.NewRat(int64(rate)*int64(area), 1000))
	loss, _ := floorAndCeil(big.NewRat(int64(fresh)*int64(b.Water), int64(massOf(b))))
	return min(loss, b.Water)
}

// sunBrines are Brines with a mass, among them such without Salt or without Water.
var sunBrines = []impl.Brine{
	{Water: 900, Salt: 100}, {Water: 1}, {Salt: 1}, {Water: 1, Salt: 1}, {Water: 777}, {Salt: 777}, {Water: 35, Salt: 999}, {Water: 2, Salt: impl.MaxWater},
	{Water: impl.MaxWater}, {Salt: impl.MaxWater}, {Water: impl.MaxWater, Salt: impl.MaxWater}, {Water: impl.MaxWater, Salt: 1}, {Water: 654321, Salt: 12345},
}

var sunAreas = []int{1, 2, 3, 99, 100, 101, 777, 5000, 99999, greatestArea}

var sunStrengths = [][2]int{{1, 1000}, {1, 10}, {101, 1000}, {1, 4}, {1, 3}, {1, 2}, {501, 1000}, {999, 1000}, {1000, 1000}, {1, 1}}

// checkSums holds the Rates and their sums against the days.
func checkSums(t *testing.T, list []impl.Sun, rates *calendar) {
	t.Helper()
	for day, want := range rates {
		if rate, ok := impl.SunOn(list, day); rate != want || !ok {
			t.Fatal("SunOn", list, day, "got", rate, ok, "want", want)
		}
	}
	days := daysOfNote(list)
	for _, from := range days {
		sum, next := 0, from
		for _, to := range days {
			for ; next <= to; next++ {
				sum += rates[next]
			}
			if got, ok := impl.SunSum(list, from, to); got != sum || !ok {
				t.Fatal("SunSum", list, from, to, "got", got, ok, "want", sum)
			}
		}
	}
	for _, days := range []int{1, 2, 3, 4, 50, 99, 100} {
		start, ok := impl.BestStart(list, days)
		wantInt(t, fmt.Sprint("BestStart ", list, days), start, ok, rates.best(days), true)
	}
}

// checkBrine holds what becomes of a Brine against its days.
func checkBrine(t *testing.T, list []impl.Sun, rates *calendar, b impl.Brine, area int) {
	t.Helper()
	call := fmt.Sprint(" ", list, b, area, " ")
	days := daysOfNote(list)
	for _, day := range days {
		loss, ok := impl.LossOn(list, b, area, day)
		wantInt(t, fmt.Sprint("LossOn", call, day), loss, ok, exactLoss(rates[day], b, area), true)
		one, ok := impl.AfterSun(list, b, area, day, day)
		wantBrine(t, fmt.Sprint("AfterSun", call, day, day), one, ok, brine(b.Water-loss, b.Salt), true)
	}
	for _, from := range []int{days[0], days[1], days[len(days)/2], days[len(days)-1]} {
		want, next := b, from
		for _, to := range days {
			got, ok := impl.AfterSun(list, b, area, from, to)
			if to < from {
				wantBrine(t, fmt.Sprint("AfterSun", call, from, to), got, ok, impl.Brine{}, false)
				continue
			}
			for ; next <= to; next++ {
				want = rates.dry(want, area, next)
			}
			wantBrine(t, fmt.Sprint("AfterSun", call, from, to), got, ok, want, true)
		}
	}
}

// checkStrengths holds the first days of strengths against all days.
func checkStrengths(t *testing.T, list []impl.Sun, rates *calendar, b impl.Brine, area int) {
	t.Helper()
	end := rates.after(b, area, 0, lastDay)
	for _, s := range sunStrengths {
		day, ok := impl.StrongOn(list, b, area, s[0], s[1])
		want, wantOK := rates.strong(b, area, s[0], s[1])
		wantInt(t, fmt.Sprint("StrongOn ", list, b, area, s), day, ok, want, wantOK)
		if ok != (massOf(end) > 0 && isAtLeast(end.Water, end.Salt, s[0], s[1])) {
			t.Error("StrongOn", list, b, area, s, "tells", ok, "but all Suns leave", end)
		}
	}
}

// checkArea holds a smallest area against itself and the one below it.
func checkArea(t *testing.T, list []impl.Sun, rates *calendar, b impl.Brine, from int, to int, goal int) {
	t.Helper()
	area, ok := impl.SmallestArea(list, b, from, to, goal)
	call := fmt.Sprint("SmallestArea ", list, b, from, to, goal)
	if !ok {
		wantInt(t, call, area, ok, 0, false)
		area = greatestArea + 1
	} else if area < 1 || area > greatestArea || rates.after(b, area, from, to).Water > goal {
		t.Error(call, "tells", area)
	}
	if area > 1 && rates.after(b, area-1, from, to).Water <= goal {
		t.Error(call, "tells", area, ok, "but a smaller area does")
	}
}

// checkPut puts a Sun on each day of note, and then puts back what was there.
func checkPut(t *testing.T, list []impl.Sun, rates *calendar) {
	t.Helper()
	for i, day := range daysOfNote(list) {
		for _, rate := range []int{0, 1 + i, greatestRate} {
			want, old := []impl.Sun{}, false
			for d, r := range rates {
				there := slices.Contains(list, impl.Sun{Day: d, Rate: r})
				old = old || there && d == day
				if d == day {
					want = append(want, impl.Sun{Day: d, Rate: rate})
				} else if there {
					want = append(want, impl.Sun{Day: d, Rate: r})
				}
			}
			full := len(want) > impl.MaxSun
			if full {
				want = nil
			}
			got, ok := impl.PutSun(list, impl.Sun{Day: day, Rate: rate})
			wantSuns(t, fmt.Sprint("PutSun ", list, day, rate), got, ok, want, !full)
			if ok && old {
				back, ok := impl.PutSun(got, impl.Sun{Day: day, Rate: rates[day]})
				wantSuns(t, fmt.Sprint("PutSun ", got, " and back"), back, ok, list, true)
			}
		}
	}
}

// expectNoSun wants the zero values of each function for Suns, a Brine or an area that are not valid.
func expectNoSun(t *testing.T, list []impl.Sun, b impl.Brine, area int) {
	t.Helper()
	call := fmt.Sprint(" ", list[:min(len(list), 22)], b, area)
	for _, day := range []int{0, 5, lastDay} {
		loss, ok := impl.LossOn(list, b, area, day)
		wantInt(t, fmt.Sprint("LossOn", call, day), loss, ok, 0, false)
		after, ok := impl.AfterSun(list, b, area, day, lastDay)
		wantBrine(t, fmt.Sprint("AfterSun", call, day), after, ok, impl.Brine{}, false)
	}
	for _, s := range [][2]int{{1, 1000}, {1, 4}, {1, 1}} {
		day, ok := impl.StrongOn(list, b, area, s[0], s[1])
		wantInt(t, fmt.Sprint("StrongOn", call, s), day, ok, 0, false)
	}
}

func expectNoArea(t *testing.T, list []impl.Sun, b impl.Brine, from int, to int, goal int) {
	t.Helper()
	area, ok := impl.SmallestArea(list, b, from, to, goal)
	wantInt(t, fmt.Sprint("SmallestArea ", list[:min(len(list), 22)], b, from, to, goal), area, ok, 0, false)
}

// goals has the ends of all goals that are valid.
var goals = []int{0, 1, 450, impl.MaxWater, impl.MaxWater + 1, math.MaxInt}

func TestAreSuns(t *testing.T) {
	for _, list := range goodSuns() {
		list, check := guardedSuns(t, list)
		if !impl.AreSuns(list) {
			t.Error("Suns:", list)
		}
		check()
	}
	for _, list := range badSuns() {
		list, check := guardedSuns(t, list)
		if impl.AreSuns(list) {
			t.Error("no Suns:", list)
		}
		check()
	}
	for n := 0; n <= 24; n++ {
		want := n <= impl.MaxSun
		if impl.AreSuns(sunny(n, 0, 1, 0)) != want || impl.AreSuns(sunny(n, 4001-n, 1, greatestRate)) != want {
			t.Error(n, "are Suns: not", want)
		}
	}
}

// TestAreSunsOfAllNumbers tries each number of a Sun apart from the other one, and all orders of two Days.
func TestAreSunsOfAllNumbers(t *testing.T) {
	for n := -20; n <= greatestRate+20; n++ {
		if want := n >= 0 && n <= lastDay; impl.AreSuns(sunsOf(n, 5)) != want {
			t.Error(n, "is a Day: not", want)
		}
		if want := n >= 0 && n <= greatestRate; impl.AreSuns(sunsOf(5, n)) != want {
			t.Error(n, "is a Rate: not", want)
		}
	}
	for a := range 60 {
		for b := range 60 {
			if impl.AreSuns(sunsOf(a, 60-a, b, b)) != (a < b) || impl.AreSuns(sunsOf(lastDay-a, 9, lastDay-b, 9)) != (a > b) {
				t.Error("the order of two Days", a, b)
			}
		}
	}
}

func TestSums(t *testing.T) {
	for _, list := range goodSuns() {
		list, check := guardedSuns(t, list)
		checkSums(t, list, calendarOf(list))
		check()
	}
}

func TestBrinesInTheSun(t *testing.T) {
	r := rand.New(rand.NewPCG(6, 18))
	for i, list := range goodSuns() {
		list, check := guardedSuns(t, list)
		rates := calendarOf(list)
		for _, b := range sunBrines {
			areas := []int{1 + r.IntN(1000), 1 + r.IntN(greatestArea)}
			if i < len(handSuns()) {
				areas = sunAreas
			}
			for _, area := range areas {
				checkBrine(t, list, rates, b, area)
				checkStrengths(t, list, rates, b, area)
			}
		}
		check()
	}
}

// TestSmallBrinesInTheSun has all losses of small Brines, also those that are just all the Water.
func TestSmallBrinesInTheSun(t *testing.T) {
	for _, b := range smallBrines(12) {
		if massOf(b) == 0 {
			continue
		}
		for fresh := range 40 {
			for _, extra := range []int{0, 1, 499} {
				list := sunsOf(7, fresh*500+extra)
				loss, ok := impl.LossOn(list, b, 2, 7)
				wantInt(t, fmt.Sprint("LossOn ", list, b, 2, 7), loss, ok, min(fresh*b.Water/massOf(b), b.Water), true)
			}
			list := sunsOf(7, fresh*500, 8, fresh*250)
			checkStrengths(t, list, calendarOf(list), b, 2)
		}
	}
}

// TestSunPromise: the Salt stays, and on a greater area, and with a greater Rate, not less evaporates.
func TestSunPromise(t *testing.T) {
	for _, b := range sunBrines {
		for _, rate := range []int{0, 1, 999, 1000, 1001, 7777, greatestRate} {
			list := sunsOf(3, rate)
			last := 0
			for area := 1; area <= greatestArea; area += 1 + area/50 {
				loss, ok := impl.LossOn(list, b, area, 3)
				if !ok || loss < last || loss > b.Water {
					t.Fatal("LossOn", list, b, area, "got", loss, ok, "after", last)
				}
				last = loss
				after, ok := impl.AfterSun(list, b, area, 0, lastDay)
				wantBrine(t, fmt.Sprint("AfterSun ", list, b, area), after, ok, brine(b.Water-loss, b.Salt), true)
			}
		}
	}
	for _, list := range goodSuns() {
		for _, b := range sunBrines {
			water := b.Water
			for _, area := range sunAreas {
				after, ok := impl.AfterSun(list, b, area, 0, lastDay)
				if !ok || after.Salt != b.Salt || after.Water > water || after.Water < 0 {
					t.Error("AfterSun", list, b, area, "got", after, ok, "a smaller area left", water)
				}
				water = after.Water
			}
		}
	}
}

func TestSmallestAreas(t *testing.T) {
	r := rand.New(rand.NewPCG(6, 19))
	for _, list := range goodSuns() {
		list, check := guardedSuns(t, list)
		rates, days := calendarOf(list), daysOfNote(list)
		for _, b := range sunBrines {
			from, to := days[r.IntN(len(days))], days[r.IntN(len(days))]
			from, to = min(from, to), max(from, to)
			for _, goal := range append([]int{b.Water, b.Water + 1, b.Water - b.Water/1000, r.IntN(b.Water + 1)}, goals...) {
				checkArea(t, list, rates, b, from, to, goal)
			}
		}
		check()
	}
}

// TestSmallestAreaOfAll goes through all areas, the greatest one first.
func TestSmallestAreaOfAll(t *testing.T) {
	for _, list := range [][]impl.Sun{sunsOf(0, 5000, 2, 3000), sunsOf(1, 1), sunsOf(5, 700, 9, 20000, 11, 3), sunny(5, 0, 1, 999), sunny(3, 0, 1, 0)} {
		for _, b := range []impl.Brine{brine(900, 100), brine(60, 0), brine(0, 60), brine(impl.MaxWater, 3), brine(7000, 700000)} {
			want := map[int]int{}
			for area := greatestArea; area >= 1; area-- {
				left := b
				for _, s := range list {
					left.Water -= min(s.Rate*area/1000*left.Water/max(massOf(left), 1), left.Water)
				}
				want[left.Water] = area
			}
			for water, area := range want {
				got, ok := impl.SmallestArea(list, b, 0, 20, water)
				wantInt(t, fmt.Sprint("SmallestArea ", list, b, water), got, ok, area, true)
			}
		}
	}
}

func TestPutSuns(t *testing.T) {
	for i, list := range goodSuns() {
		if i > len(handSuns())+20 {
			break
		}
		list, check := guardedSuns(t, list)
		checkPut(t, list, calendarOf(list))
		for _, s := range noSuns() {
			got, ok := impl.PutSun(list, s)
			wantSuns(t, fmt.Sprint("PutSun ", list, s), got, ok, nil, false)
		}
		check()
	}
}

func TestNoSuns(t *testing.T) {
	for _, list := range badSuns() {
		list, check := guardedSuns(t, list)
		call := fmt.Sprint(" ", list[:min(len(list), 22)])
		for _, b := range []impl.Brine{brine(900, 100), brine(0, 5), brine(5, 0)} {
			expectNoSun(t, list, b, 100)
			for _, goal := range goals {
				expectNoArea(t, list, b, 0, lastDay, goal)
			}
		}
		for _, day := range []int{0, 1, 5, lastDay} {
			rate, ok := impl.SunOn(list, day)
			wantInt(t, fmt.Sprint("SunOn", call, day), rate, ok, 0, false)
			sum, ok := impl.SunSum(list, day, 5)
			wantInt(t, fmt.Sprint("SunSum", call, day), sum, ok, 0, false)
			put, ok := impl.PutSun(list, impl.Sun{Day: day, Rate: 9})
			wantSuns(t, fmt.Sprint("PutSun", call, day), put, ok, nil, false)
		}
		for _, days := range []int{1, 2, 100} {
			start, ok := impl.BestStart(list, days)
			wantInt(t, fmt.Sprint("BestStart", call, days), start, ok, 0, false)
		}
		check()
	}
}

// TestPutSunMendsNothing has lists in which the new Sun would replace what makes them invalid.
func TestPutSunMendsNothing(t *testing.T) {
	for _, rate := range badRates {
		for _, list := range [][]impl.Sun{sunsOf(5, rate), sunsOf(4, 1, 5, rate), sunsOf(5, rate, 6, 1)} {
			got, ok := impl.PutSun(list, impl.Sun{Day: 5, Rate: 7})
			wantSuns(t, fmt.Sprint("PutSun ", list), got, ok, nil, false)
		}
	}
}

func TestSunsWithWrongNumbers(t *testing.T) {
	for _, list := range handSuns() {
		list, check := guardedSuns(t, list)
		for _, b := range append([]impl.Brine{{}}, noBrines...) {
			expectNoSun(t, list, b, 100)
			for _, goal := range goals {
				expectNoArea(t, list, b, 0, lastDay, goal)
			}
		}
		for _, b := range sunBrines {
			for _, area := range badAreas {
				expectNoSun(t, list, b, area)
			}
			for _, day := range badDays {
				loss, ok := impl.LossOn(list, b, 100, day)
				wantInt(t, fmt.Sprint("LossOn ", list, b, day), loss, ok, 0, false)
			}
			for _, s := range badStrengths {
				day, ok := impl.StrongOn(list, b, 100, s[0], s[1])
				wantInt(t, fmt.Sprint("StrongOn ", list, b, s), day, ok, 0, false)
			}
			for _, s := range backwards {
				after, ok := impl.AfterSun(list, b, 100, s[0], s[1])
				wantBrine(t, fmt.Sprint("AfterSun ", list, b, s), after, ok, impl.Brine{}, false)
				expectNoArea(t, list, b, s[0], s[1], math.MaxInt)
			}
			for _, goal := range []int{-1, -2, -1000000, -1 << 32, math.MinInt, math.MinInt + 1} {
				expectNoArea(t, list, b, 0, lastDay, goal)
			}
		}
		check()
	}
}

func TestSumsWithWrongNumbers(t *testing.T) {
	for _, list := range handSuns() {
		list, check := guardedSuns(t, list)
		for _, bad := range badDays {
			rate, ok := impl.SunOn(list, bad)
			wantInt(t, fmt.Sprint("SunOn ", list, bad), rate, ok, 0, false)
			for _, day := range append([]int{0, 7, lastDay}, badDays...) {
				sum, ok := impl.SunSum(list, bad, day)
				wantInt(t, fmt.Sprint("SunSum ", list, bad, day), sum, ok, 0, false)
				sum, ok = impl.SunSum(list, day, bad)
				wantInt(t, fmt.Sprint("SunSum ", list, day, bad), sum, ok, 0, false)
			}
		}
		for _, days := range badSpans {
			start, ok := impl.BestStart(list, days)
			wantInt(t, fmt.Sprint("BestStart ", list, days), start, ok, 0, false)
		}
		check()
	}
}

func TestSunOnAndSunSum(t *testing.T) {
	list := sunsOf(0, 5000, 2, 3000, 7, 0, lastDay, greatestRate)
	for _, c := range []struct{ from, to, want int }{
		{0, 0, 5000}, {0, 1, 5000}, {0, 2, 8000}, {1, 2, 3000}, {2, 2, 3000}, {3, 7, 0}, {1, 1, 0}, {0, lastDay, 28000}, {lastDay, lastDay, 20000}, {3, lastDay, 20000}, {3, 3999, 0},
		{2, 0, 0}, {1, 0, 0}, {2, 1, 0}, {lastDay, 0, 0}, {lastDay, 3999, 0},
	} {
		sum, ok := impl.SunSum(list, c.from, c.to)
		wantInt(t, fmt.Sprint("SunSum ", c.from, c.to), sum, ok, c.want, true)
		if c.from == c.to {
			rate, ok := impl.SunOn(list, c.from)
			wantInt(t, fmt.Sprint("SunOn ", c.from), rate, ok, c.want, true)
		}
	}
	sum, ok := impl.SunSum(sunny(impl.MaxSun, 0, 200, greatestRate), 0, lastDay)
	wantInt(t, "SunSum of all", sum, ok, 400000, true)
}

func TestLossOn(t *testing.T) {
	for _, c := range []struct {
		rate       int
		b          impl.Brine
		area, want int
	}{
		{5000, brine(900, 100), 100, 450}, {3000, brine(450, 100), 100, 245}, {0, brine(900, 100), 100, 0}, {20000, brine(900, 100), 1, 18}, {1, brine(900, 100), 100000, 90},
		// Rounded down twice: 5.999 are 5, and then 4.995 are 4.
		{5999, brine(999, 1), 1, 4}, {6000, brine(999, 1), 1, 5}, {999, brine(1, 0), 1, 0}, {1000, brine(1, 0), 1, 1}, {1000, brine(999, 1), 1, 0}, {1999, brine(1, 1), 1, 0}, {2000, brine(1, 1), 1, 1}, {333, brine(5, 0), 3, 0}, {334, brine(5, 0), 3, 1},
		// The product comes before the division: 2 * 2 / 3 is 1.
		{2000, brine(2, 1), 1, 1}, {7000, brine(4, 3), 1, 4}, {20000, brine(impl.MaxWater-1, impl.MaxWater), 50000, 499999},
		// Just all the Water, one kilogram less and more.
		{999, brine(900, 100), 1000, 899}, {1000, brine(900, 100), 1000, 900}, {1001, brine(900, 100), 1000, 900}, {20000, brine(900, 100), 100000, 900}, {20000, brine(20, 0), 1, 20}, {19000, brine(20, 0), 1, 19}, {20000, brine(19, 0), 1, 19},
		{20000, brine(impl.MaxWater, impl.MaxWater), 100000, impl.MaxWater}, {20000, brine(impl.MaxWater, impl.MaxWater), 99999, 999990}, {20000, brine(impl.MaxWater, 0), 50000, impl.MaxWater}, {20000, brine(impl.MaxWater, 0), 49999, 999980},
		// Without Salt all of it is fresh, and without Water there is nothing to lose.
		{5000, brine(777, 0), 10, 50}, {5000, brine(0, 777), 10, 0}, {20000, brine(0, 1), 100000, 0}, {20000, brine(0, impl.MaxWater), 100000, 0}, {1, brine(impl.MaxWater, impl.MaxWater), 1, 0},
	} {
		for _, day := range []int{0, 9, lastDay} {
			list := sunsOf(day, c.rate)
			loss, ok := impl.LossOn(list, c.b, c.area, day)
			wantInt(t, fmt.Sprint("LossOn ", list, c.b, c.area), loss, ok, c.want, true)
			loss, ok = impl.LossOn(list, c.b, c.area, 10)
			wantInt(t, fmt.Sprint("LossOn without a Sun ", list, c.b, c.area), loss, ok, 0, true)
		}
	}
}

func TestAfterSun(t *testing.T) {
	list := sunsOf(0, 5000, 2, 3000, 5, 20000, lastDay, 20000)
	for _, c := range []struct {
		b              impl.Brine
		area, from, to int
		want           impl.Brine
	}{
		{brine(900, 100), 100, 0, 0, brine(450, 100)}, {brine(900, 100), 100, 0, 1, brine(450, 100)}, {brine(900, 100), 100, 0, 2, brine(205, 100)}, {brine(900, 100), 100, 1, 2, brine(630, 100)}, {brine(900, 100), 100, 1, 1, brine(900, 100)}, {brine(900, 100), 100, 3, 4, brine(900, 100)},
		// It dries up on a day, just or by far, and stays dry.
		{brine(900, 100), 100, 0, 5, brine(0, 100)}, {brine(900, 100), 100, 0, lastDay, brine(0, 100)}, {brine(900, 100), 200, 0, 0, brine(0, 100)}, {brine(900, 100), 200, 0, 2, brine(0, 100)}, {brine(900, 100), 199, 0, 0, brine(5, 100)}, {brine(900, 100), 100000, 0, lastDay, brine(0, 100)},
		// Without Salt a dry Brine has no mass, and stays as it is.
		{brine(500, 0), 100, 0, 0, brine(0, 0)}, {brine(500, 0), 100, 0, 2, brine(0, 0)}, {brine(500, 0), 100, 0, lastDay, brine(0, 0)}, {brine(501, 0), 100, 0, 0, brine(1, 0)}, {brine(501, 0), 100, 0, 2, brine(0, 0)}, {brine(501, 0), 100000, 0, lastDay, brine(0, 0)}, {brine(1, 0), 1, 0, lastDay, brine(0, 0)},
		{brine(0, 100), 100, 0, lastDay, brine(0, 100)}, {brine(0, 1), 100000, 0, lastDay, brine(0, 1)}, {brine(4, 1), 1, 0, 0, brine(0, 1)}, {brine(5, 1), 1, 0, 0, brine(1, 1)}, {brine(5, 1), 1, 0, 2, brine(0, 1)},
		{brine(900, 100), 10, lastDay, lastDay, brine(720, 100)}, {brine(900, 100), 10, 6, lastDay, brine(720, 100)}, {brine(900, 100), 10, 6, 3999, brine(900, 100)}, {brine(900, 100), 10, 5, 3999, brine(720, 100)}, {brine(900, 100), 10, 5, lastDay, brine(545, 100)},
		{brine(impl.MaxWater, impl.MaxWater), 99999, 5, 5, brine(10, impl.MaxWater)}, {brine(impl.MaxWater, impl.MaxWater), 100000, 5, 5, brine(0, impl.MaxWater)}, {brine(impl.MaxWater, impl.MaxWater), 1, 0, lastDay, brine(999979, impl.MaxWater)},
	} {
		got, ok := impl.AfterSun(list, c.b, c.area, c.from, c.to)
		wantBrine(t, fmt.Sprint("AfterSun ", c.b, c.area, c.from, c.to), got, ok, c.want, true)
	}
}

func TestStrongOn(t *testing.T) {
	list := sunsOf(1, 5000, 3, 3000, 7, 20000)
	late, never := sunsOf(lastDay, 20000), sunsOf(0, 0, lastDay, 0)
	for _, c := range []struct {
		list           []impl.Sun
		b              impl.Brine
		area, num, den int
		want           int
		ok             bool
	}{
		// 10 percent at the start, 100 / 550 after day 1, 100 / 305 after day 3, all Salt after day 7.
		{list, brine(900, 100), 100, 1, 10, 0, true}, {list, brine(900, 100), 100, 1, 1000, 0, true}, {list, brine(900, 100), 100, 101, 1000, 1, true}, {list, brine(900, 100), 100, 2, 11, 1, true}, {list, brine(900, 100), 100, 182, 1000, 3, true}, {list, brine(900, 100), 100, 20, 61, 3, true},
		{list, brine(900, 100), 100, 328, 1000, 7, true}, {list, brine(900, 100), 100, 1, 1, 7, true}, {list, brine(900, 100), 100, 1000, 1000, 7, true}, {list, brine(900, 100), 100000, 1, 1, 1, true}, {list, brine(900, 100), 1, 1, 2, 0, false}, {list[:2], brine(900, 100), 100, 1, 2, 0, false},
		{list, brine(900, 100), 1, 1, 1, 0, false}, {list, brine(900, 100), 1, 101, 1000, 7, true}, {list[:2], brine(900, 100), 1, 101, 1000, 0, false},
		// The Brine has the strength at the start, with or without a Sun.
		{nil, brine(900, 100), 1, 1, 10, 0, true}, {nil, brine(900, 100), 1, 101, 1000, 0, false}, {never, brine(900, 100), 1, 1, 10, 0, true}, {never, brine(900, 100), 100000, 101, 1000, 0, false}, {late, brine(900, 100), 1, 1, 10, 0, true}, {nil, brine(0, 1), 1, 1, 1, 0, true}, {nil, brine(0, 1), 1, 1000, 1000, 0, true},
		{late, brine(900, 100), 100, 1, 1, lastDay, true}, {late, brine(900, 100), 100, 101, 1000, lastDay, true}, {late, brine(900, 100), 50, 1, 1, lastDay, true}, {late, brine(900, 100), 49, 1, 1, 0, false}, {late, brine(900, 100), 49, 847, 1000, lastDay, true}, {late, brine(900, 100), 49, 848, 1000, 0, false},
		{sunsOf(0, 20000), brine(900, 100), 50, 1, 1, 0, true}, {sunsOf(0, 20000), brine(900, 100), 49, 1, 1, 0, false},
		// A Brine without Salt never has one of these strengths, dry or not.
		{list, brine(900, 0), 1, 1, 1000, 0, false}, {list, brine(900, 0), 100000, 1, 1000, 0, false}, {list, brine(900, 0), 100000, 1, 1, 0, false}, {list, brine(500, 0), 100, 1, 1, 0, false}, {nil, brine(1, 0), 1, 1, 1000, 0, false}, {late, brine(1, 0), 1, 1, 2, 0, false},
		{nil, brine(999, 1), 1, 1, 1000, 0, true}, {nil, brine(1000, 1), 1, 1, 1000, 0, false}, {list, brine(1000, 1), 1, 1, 1000, 1, true}, {list, brine(impl.MaxWater, 1), 100000, 1, 1, 7, true}, {list, brine(impl.MaxWater, impl.MaxWater), 100000, 1, 2, 0, true},
		{list, brine(impl.MaxWater, impl.MaxWater), 100000, 999, 1000, 7, true}, {list, brine(impl.MaxWater, impl.MaxWater), 100000, 571, 1000, 1, true}, {list, brine(impl.MaxWater, impl.MaxWater), 100000, 572, 1000, 3, true},
	} {
		got, ok := impl.StrongOn(c.list, c.b, c.area, c.num, c.den)
		wantInt(t, fmt.Sprint("StrongOn ", c.list, c.b, c.area, c.num, c.den), got, ok, c.want, c.ok)
	}
}

func TestBestStart(t *testing.T) {
	ends := sunsOf(0, 5000, lastDay, 5000)
	for _, c := range []struct {
		list       []impl.Sun
		days, want int
	}{
		{sunsOf(0, 5000, 2, 3000), 1, 0}, {sunsOf(0, 5000, 2, 3000), 2, 0}, {sunsOf(0, 5000, 2, 3000), 3, 0}, {sunsOf(2, 3000), 1, 2}, {sunsOf(2, 3000), 2, 1}, {sunsOf(2, 3000), 3, 0}, {sunsOf(2, 3000), 100, 0},
		{nil, 1, 0}, {nil, 100, 0}, {sunsOf(7, 0), 1, 0}, {sunsOf(7, 0, lastDay, 0), 100, 0}, {sunsOf(7, 0, 8, 1), 1, 8}, {sunsOf(7, 0, 8, 1), 2, 7},
		// The span starts before the first Sun, or ends behind the last one.
		{sunsOf(50, 3, 60, 3), 20, 41}, {sunsOf(50, 3, 60, 3), 11, 50}, {sunsOf(50, 3, 60, 3), 10, 41}, {sunsOf(50, 3, 60, 4), 10, 51}, {sunsOf(50, 4, 60, 3), 10, 41}, {sunsOf(50, 3, 60, 3), 100, 0}, {sunsOf(0, 3, 1, 3), 5, 0}, {sunsOf(3, 9, 99, 3), 90, 0}, {sunsOf(3, 9, 99, 3), 97, 3}, {sunsOf(3, 9, 99, 3), 98, 2},
		// Equal sums.
		{ends, 1, 0}, {ends, 100, 0}, {sunsOf(0, 4999, lastDay, 5000), 1, lastDay}, {sunsOf(0, 4999, lastDay, 5000), 2, 3999}, {sunsOf(0, 4999, lastDay, 5000), 100, 3901}, {sunsOf(0, 5000, lastDay, 4999), 100, 0},
		{sunsOf(10, 5, 20, 5, 30, 5, 40, 5), 1, 10}, {sunsOf(10, 5, 20, 5, 30, 5, 40, 5), 11, 10}, {sunsOf(10, 5, 20, 5, 30, 5, 40, 5), 12, 9}, {sunsOf(10, 5, 20, 5, 31, 5, 40, 5), 10, 31}, {sunsOf(10, 1, 11, 2, 12, 3, 13, 2, 14, 1), 3, 11}, {sunsOf(10, 1, 11, 2, 12, 3, 13, 2, 14, 1), 2, 11}, {sunsOf(10, 3, 11, 2, 12, 1, 13, 2, 14, 3), 2, 10},
		// The last span ends on the last day.
		{sunsOf(lastDay, 1), 1, lastDay}, {sunsOf(lastDay, 1), 2, 3999}, {sunsOf(lastDay, 1), 99, 3902}, {sunsOf(lastDay, 1), 100, 3901}, {sunsOf(3901, 1, lastDay, 1), 100, 3901}, {sunsOf(3900, 1, lastDay, 1), 100, 3801}, {sunsOf(3950, 1), 100, 3851}, {sunsOf(3950, 1, 3960, 2), 5, 3956},
	} {
		got, ok := impl.BestStart(c.list, c.days)
		wantInt(t, fmt.Sprint("BestStart ", c.list, c.days), got, ok, c.want, true)
	}
}

// TestBestStartOfAllSpans has each number of days, not only a few.
func TestBestStartOfAllSpans(t *testing.T) {
	for _, list := range handSuns() {
		rates := calendarOf(list)
		for days := 1; days <= 100; days++ {
			start, ok := impl.BestStart(list, days)
			wantInt(t, fmt.Sprint("BestStart ", list, days), start, ok, rates.best(days), true)
		}
	}
}

func TestSmallestArea(t *testing.T) {
	list := sunsOf(0, 5000, 2, 3000, lastDay, 10)
	for _, c := range []struct {
		b              impl.Brine
		from, to, goal int
		want           int
		ok             bool
	}{
		{brine(900, 100), 0, 0, 450, 100, true}, {brine(900, 100), 0, 0, 449, 101, true}, {brine(900, 100), 0, 0, 454, 100, true}, {brine(900, 100), 0, 0, 455, 99, true}, {brine(900, 100), 0, 0, 0, 200, true}, {brine(900, 100), 0, 2, 205, 100, true}, {brine(900, 100), 0, 2, 204, 101, true},
		// The goal is there without any Sun.
		{brine(900, 100), 0, 0, 900, 1, true}, {brine(900, 100), 1, 1, 900, 1, true}, {brine(900, 100), 1, 1, 899, 0, false}, {brine(900, 100), 3, 3999, 900, 1, true}, {brine(900, 100), 3, 3999, 0, 0, false}, {brine(900, 100), 1, 1, math.MaxInt, 1, true}, {brine(0, 100), 0, 0, 0, 1, true}, {brine(0, 100), 1, 1, 0, 1, true},
		{brine(900, 100), 0, 0, 896, 1, true}, {brine(900, 100), 0, 0, 895, 2, true}, {brine(1, 0), 0, 0, 0, 1, true}, {brine(5, 0), 0, 0, 0, 1, true}, {brine(6, 0), 0, 0, 0, 2, true},
		// Only the greatest area does it, or none.
		{brine(500000, 0), 0, 0, 0, 100000, true}, {brine(500001, 0), 0, 0, 0, 0, false}, {brine(500001, 0), 0, 0, 1, 100000, true}, {brine(500000, 0), 0, 0, 1, 100000, true}, {brine(500000, 0), 0, 0, 5, 99999, true}, {brine(800000, 0), 0, 2, 0, 100000, true}, {brine(800001, 0), 0, 2, 0, 0, false},
		{brine(500, 500), lastDay, lastDay, 0, 100000, true}, {brine(500, 501), lastDay, lastDay, 0, 0, false}, {brine(500, 500), lastDay, lastDay, 1, 99800, true}, {brine(1000, 0), lastDay, lastDay, 0, 100000, true}, {brine(1001, 0), lastDay, lastDay, 0, 0, false},
		{brine(impl.MaxWater, impl.MaxWater), 0, lastDay, 0, 0, false}, {brine(impl.MaxWater, impl.MaxWater), 0, lastDay, impl.MaxWater, 1, true}, {brine(impl.MaxWater, impl.MaxWater), 0, 0, 750000, 100000, true}, {brine(impl.MaxWater, impl.MaxWater), 0, 0, 749999, 0, false},
	} {
		got, ok := impl.SmallestArea(list, c.b, c.from, c.to, c.goal)
		wantInt(t, fmt.Sprint("SmallestArea ", c.b, c.from, c.to, c.goal), got, ok, c.want, c.ok)
	}
	got, ok := impl.SmallestArea(nil, brine(900, 100), 0, lastDay, 899)
	wantInt(t, "SmallestArea without Suns", got, ok, 0, false)
	got, ok = impl.SmallestArea(nil, brine(900, 100), 0, lastDay, 900)
	wantInt(t, "SmallestArea without Suns", got, ok, 1, true)
}

func TestPutSun(t *testing.T) {
	full := sunny(impl.MaxSun, 1, 2, 7)
	for _, c := range []struct {
		list      []impl.Sun
		day, rate int
		want      []impl.Sun
	}{
		{nil, 0, 0, sunsOf(0, 0)}, {nil, lastDay, greatestRate, sunsOf(lastDay, greatestRate)}, {sunsOf(5, 1), 4, 2, sunsOf(4, 2, 5, 1)}, {sunsOf(5, 1), 6, 2, sunsOf(5, 1, 6, 2)}, {sunsOf(5, 1), 5, 2, sunsOf(5, 2)}, {sunsOf(5, 1), 5, 1, sunsOf(5, 1)}, {sunsOf(5, 1), 5, 0, sunsOf(5, 0)},
		{sunsOf(0, 1, 2, 3), 1, 7, sunsOf(0, 1, 1, 7, 2, 3)}, {sunsOf(0, 1, 2, 3), 0, 7, sunsOf(0, 7, 2, 3)}, {sunsOf(0, 1, 2, 3), 2, 7, sunsOf(0, 1, 2, 7)}, {sunsOf(0, 1, 2, 3), 3, 7, sunsOf(0, 1, 2, 3, 3, 7)}, {sunsOf(1, 1, 2, 3), 0, 7, sunsOf(0, 7, 1, 1, 2, 3)}, {sunsOf(0, 1, 2, 3, 4, 5), 2, 0, sunsOf(0, 1, 2, 0, 4, 5)},
		{full[1:], 1, 7, full}, {full[:19], 39, 7, full}, {slices.Delete(slices.Clone(full), 9, 10), 19, 7, full},
		// Into a full list only instead of one that is there.
		{full, 0, 7, nil}, {full, 2, 7, nil}, {full, 20, 7, nil}, {full, 40, 7, nil}, {full, lastDay, 7, nil}, {full, 1, 9, append(sunsOf(1, 9), full[1:]...)}, {full, 39, 9, append(slices.Clone(full[:19]), sunsOf(39, 9)...)}, {full, 21, 0, slices.Concat(full[:10], sunsOf(21, 0), full[11:])}, {full, 21, 7, full},
		// Suns that are none.
		{nil, -1, 0, nil}, {nil, 0, -1, nil}, {nil, 4001, 0, nil}, {nil, 0, 20001, nil}, {sunsOf(0, 1), 0, 20001, nil}, {sunsOf(0, 1), 0, -1, nil}, {sunsOf(5, 1), -1, 1, nil}, {sunsOf(5, 1), 4001, 1, nil}, {full, 1, 20001, nil}, {full, 39, -1, nil}, {sunsOf(5, 1), math.MaxInt, 1, nil}, {sunsOf(5, 1), math.MinInt, 1, nil},
	} {
		got, ok := impl.PutSun(c.list, impl.Sun{Day: c.day, Rate: c.rate})
		wantSuns(t, fmt.Sprint("PutSun ", c.list, c.day, c.rate), got, ok, c.want, c.want != nil)
	}
}

func TestSunResultsAreApart(t *testing.T) {
	list := sunsOf(1, 10, 3, 30)
	for range 2 {
		for _, s := range sunsOf(0, 5, 1, 5, 2, 5, 3, 5, 4, 5, 1, 10) {
			put, ok := impl.PutSun(list, s)
			if rate, _ := impl.SunOn(put, s.Day); !ok || rate != s.Rate {
				t.Error("PutSun", list, s, "got", put, ok)
			}
			clear(put[:cap(put)])
			if !slices.Equal(list, sunsOf(1, 10, 3, 30)) {
				t.Fatal("a result shares memory with its argument", list)
			}
		}
	}
}
