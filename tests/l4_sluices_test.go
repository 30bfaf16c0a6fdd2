package tests

import (
	"fmt"
	"math"
	"math/big"
	"math/rand/v2"
	"slices"
	"testing"

	"loop.example/g01019/impl"
)

const lastMinute = 1440

// badHeights are no heights of Marks, sills or ponds.
var badHeights = []int{501, -501, 502, -502, 1000, -1000, 1<<32 + 7, math.MaxInt, math.MaxInt - 1, math.MinInt, math.MinInt + 1}

// badMinutes are no minutes of a day.
var badMinutes = []int{-1, -2, -1440, 1441, 1442, 2880, 1<<32 + 7, math.MaxInt, math.MaxInt - 1, math.MinInt, math.MinInt + 1}

// badShifts are beyond the limits of ShiftTide.
var badShifts = []int{1001, -1001, 1002, -1002, 1 << 32, -1 << 32, math.MaxInt, math.MaxInt - 499, math.MinInt, math.MinInt + 500}

// tideOf returns Marks of pairs of a Minute and a Height.
func tideOf(numbers ...int) []impl.Mark {
	list := []impl.Mark{}
	for i := 0; i < len(numbers); i += 2 {
		list = append(list, impl.Mark{Minute: numbers[i], Height: numbers[i+1]})
	}
	return list
}

// straight returns a tide of two Marks.
func straight(from int, to int) []impl.Mark { return tideOf(0, from, lastMinute, to) }

// flat returns n Marks of one Height, the Minutes of all but the last one ascending by 1.
func flat(n int, height int) []impl.Mark {
	list := []impl.Mark{}
	for i := range n {
		list = append(list, impl.Mark{Minute: i, Height: height})
	}
	list[n-1].Minute = lastMinute
	return list
}

// twoFloods is a tide with fractions, turns and equal Heights behind one another.
func twoFloods() []impl.Mark {
	return tideOf(0, -20, 100, -120, 400, 250, 430, 250, 700, -120, 1100, 233, lastMinute, -7)
}

// handTides are tides with all that the chapter names.
func handTides() [][]impl.Mark {
	return [][]impl.Mark{
		straight(0, 0), straight(0, 1), straight(1, 0), straight(0, -1), straight(-1, 0), straight(-1, 1), straight(1, -1), straight(100, 99),
		straight(500, 500), straight(-500, -500), straight(500, -500), straight(-500, 500), straight(499, -500), straight(0, 480), straight(7, -300),
		flat(3, 0), flat(impl.MaxTide, 500), flat(impl.MaxTide, -500), flat(impl.MaxTide, -3), twoFloods(),
		tideOf(0, 0, 360, 300, 720, -100, lastMinute, 100), tideOf(0, 0, 1, 1, 2, 0, 3, 1, 4, 0, 5, -1, 6, 0, 7, 1, 8, 0, 9, 0, 10, 1, lastMinute, 0),
		tideOf(0, 500, 1, -500, 2, 500, lastMinute, -500), tideOf(0, -500, 1439, 500, lastMinute, -500), tideOf(0, 500, 1, 0, lastMinute, 0),
		tideOf(0, 3, 7, 5, 14, 3, 21, 5, 28, 3, 1439, 3, lastMinute, 4), tideOf(0, 0, 3, 1, 10, -1, 1433, 2, lastMinute, 3),
	}
}

// randomTide returns a tide with low Heights, so that equal ones are frequent, or with all.
func randomTide(r *rand.Rand) []impl.Mark {
	minutes := []int{0, lastMinute}
	steps := 1 + r.IntN(1+r.IntN(lastMinute-1))
	for range r.IntN(impl.MaxTide - 1) {
		minute := 1 + r.IntN(steps)
		if !slices.Contains(minutes, minute) && minute < lastMinute {
			minutes = append(minutes, minute)
		}
	}
	slices.Sort(minutes)
	list := []impl.Mark{}
	reach := []int{1, 3, 20, 500}[r.IntN(4)]
	for _, minute := range minutes {
		list = append(list, impl.Mark{Minute: minute, Height: r.IntN(2*reach+1) - reach})
	}
	return list
}

// goodTides are the tides by hand, and others made by chance.
func goodTides() [][]impl.Mark {
	lists := handTides()
	r := rand.New(rand.NewPCG(4, 11))
	for range 150 {
		lists = append(lists, randomTide(r))
	}
	return lists
}

// noTides are lists of Marks that are no tides.
func noTides() [][]impl.Mark {
	lists := [][]impl.Mark{
		nil, {}, tideOf(0, 0), tideOf(lastMinute, 0), make([]impl.Mark, 2), make([]impl.Mark, impl.MaxTide), flat(13, 0), flat(14, 100), flat(1000, 1),
		tideOf(1, 0, lastMinute, 0), tideOf(-1, 0, lastMinute, 0), tideOf(0, 0, 1439, 0), tideOf(0, 0, 1441, 0), tideOf(-1, 0, 0, 0, lastMinute, 0),
		tideOf(0, 0, 700, 5, 1439, 0), tideOf(0, 0, 700, 5, 1441, 0), tideOf(1, 0, 700, 5, lastMinute, 0), tideOf(0, 0, lastMinute, 0, 1441, 0),
		tideOf(lastMinute, 0, 0, 0), tideOf(0, 0, 0, 0, lastMinute, 0), tideOf(0, 0, 0, 5, 700, 9, lastMinute, 0), tideOf(0, 0, lastMinute, 5, lastMinute, 0),
		tideOf(0, 0, 700, 5, 700, 5, lastMinute, 0), tideOf(0, 0, 700, 5, 700, 6, lastMinute, 0), tideOf(0, 0, 700, 5, 699, 6, lastMinute, 0),
		tideOf(0, 0, 5, 1, 4, 2, 6, 3, lastMinute, 0), tideOf(0, 0, 1441, 5, lastMinute, 0), tideOf(0, 0, -1, 5, lastMinute, 0), tideOf(0, 0, 9, 1, 5, 2, lastMinute, 0),
		tideOf(math.MinInt, 0, lastMinute, 0), tideOf(0, 0, math.MaxInt, 0), tideOf(0, 0, math.MaxInt, 1, lastMinute, 0), tideOf(0, 0, math.MinInt, 1, lastMinute, 0),
		tideOf(math.MinInt, math.MinInt, math.MaxInt, math.MaxInt), tideOf(1<<32, 0, 1<<32+lastMinute, 0), tideOf(0, 0, 1<<32, 0, 1<<32+lastMinute, 0),
	}
	for _, height := range badHeights {
		lists = append(lists, straight(height, 0), straight(0, height), straight(height, height),
			tideOf(0, 0, 5, height, lastMinute, 0), tideOf(0, 500, 5, -500, 6, height, 7, 0, lastMinute, 0))
		full := flat(impl.MaxTide, 9)
		full[10].Height = height
		lists = append(lists, full)
	}
	return lists
}

// guardedTide returns the list as the start of a longer one, and what checks that neither changed.
func guardedTide(t *testing.T, list []impl.Mark) ([]impl.Mark, func()) {
	backing := append(slices.Clone(list), tideOf(1441, 7, math.MinInt, math.MaxInt, 0, -501)...)
	before := slices.Clone(backing)
	return backing[:len(list)], func() {
		t.Helper()
		if !slices.Equal(backing, before) {
			t.Errorf("%v was changed to %v", before, backing)
		}
	}
}

func wantMarks(t *testing.T, call string, got []impl.Mark, ok bool, want []impl.Mark, wantOK bool) {
	t.Helper()
	if !slices.Equal(got, want) || ok != wantOK {
		t.Errorf("%s: got %v, %v, want %v, %v", call, got, ok, want, wantOK)
	}
}

// wantTwo is for the functions with two numbers.
func wantTwo(t *testing.T, call string, a int, b int, ok bool, wantA int, wantB int, wantOK bool) {
	t.Helper()
	if a != wantA || b != wantB || ok != wantOK {
		t.Errorf("%s: got %d, %d, %v, want %d, %d, %v", call, a, b, ok, wantA, wantB, wantOK)
	}
}

// seaByMinutes returns the height of the sea in each minute, as a mean of both Marks weighted by
// how far the minute is from the other one.
func seaByMinutes(list []impl.Mark) []*big.Rat {
	sea := []*big.Rat{}
	for minute := 0; minute <= lastMinute; minute++ {
		i := 1
		for list[i].Minute < minute {
			i++
		}
		p, q := list[i-1], list[i]
		weighted := int64(p.Height*(q.Minute-minute) + q.Height*(minute-p.Minute))
		sea = append(sea, big.NewRat(weighted, int64(q.Minute-p.Minute)))
	}
	return sea
}

// spansWhere goes from minute to minute and notes where rule begins and ends to hold.
func spansWhere(rule func(minute int) bool) []int {
	spans := []int{}
	before := false
	for minute := 0; minute <= lastMinute; minute++ {
		now := rule(minute)
		if now && !before {
			spans = append(spans, minute)
		}
		if !now && before {
			spans = append(spans, minute-1)
		}
		before = now
	}
	if before {
		spans = append(spans, lastMinute)
	}
	return spans
}

// floorAndCeil returns the whole centimeters below or at a height and above or at it.
func floorAndCeil(x *big.Rat) (int, int) {
	floor := new(big.Int).Div(x.Num(), x.Denom())
	ceil := new(big.Int).Neg(new(big.Int).Div(new(big.Int).Neg(x.Num()), x.Denom()))
	return int(floor.Int64()), int(ceil.Int64())
}

// sluiceHeights are heights at, near and far from those of a tide.
func sluiceHeights(list []impl.Mark) []int {
	heights := []int{-500, 0, 500}
	for _, mark := range list[:min(len(list), 3)] {
		for _, height := range []int{mark.Height - 1, mark.Height, mark.Height + 1} {
			if height >= -500 && height <= 500 {
				heights = append(heights, height)
			}
		}
	}
	slices.Sort(heights)
	return slices.Compact(heights)
}

// checkSluice holds a sluice against the whole centimeters of the sea in each minute.
func checkSluice(t *testing.T, list []impl.Mark, floors []int, ceils []int, sill int, pond int) {
	t.Helper()
	call := fmt.Sprint(" ", list, sill, pond)
	wantIn := spansWhere(func(m int) bool { return ceils[m] > sill && ceils[m] > pond })
	wantOut := spansWhere(func(m int) bool { return pond > sill && pond > floors[m] })
	in, ok := impl.MinutesIn(list, sill, pond)
	wantInts(t, "MinutesIn"+call, in, ok, wantIn, true)
	out, ok := impl.MinutesOut(list, sill, pond)
	wantInts(t, "MinutesOut"+call, out, ok, wantOut, true)
	first, ok := impl.FirstIn(list, sill, pond)
	if len(wantIn) > 0 {
		wantInt(t, "FirstIn"+call, first, ok, wantIn[0], true)
	} else {
		wantInt(t, "FirstIn"+call, first, ok, 0, false)
	}
	var flows [lastMinute + 1]int
	for _, spans := range [][]int{in, out} {
		for i := 0; i+1 < len(spans); i += 2 {
			for minute := spans[i]; minute <= spans[i+1]; minute++ {
				flows[minute]++
			}
		}
	}
	if slices.Max(flows[:]) > 1 {
		t.Error("a sluice lets water in and out in one minute:", call)
	}
}

// checkMarks holds what is asked for the Marks alone against them.
func checkMarks(t *testing.T, list []impl.Mark) {
	t.Helper()
	highest := slices.MaxFunc(list, func(a, b impl.Mark) int { return a.Height - b.Height })
	minute, height, ok := impl.HighestTide(list)
	wantTwo(t, fmt.Sprint("HighestTide ", list), minute, height, ok, highest.Minute, highest.Height, true)
	turns := []int{}
	for i := 2; i < len(list); i++ {
		before, behind := list[i-1].Height-list[i-2].Height, list[i].Height-list[i-1].Height
		if before > 0 && behind < 0 || before < 0 && behind > 0 {
			turns = append(turns, list[i-1].Minute)
		}
	}
	got, ok := impl.TurnsOf(list)
	wantInts(t, fmt.Sprint("TurnsOf ", list), got, ok, turns, true)
}

// checkShifts shifts a tide as far as possible in both directions, one further, and back.
func checkShifts(t *testing.T, list []impl.Mark) {
	t.Helper()
	heights := []int{}
	for _, mark := range list {
		heights = append(heights, mark.Height)
	}
	up, down := 500-slices.Max(heights), -500-slices.Min(heights)
	for _, by := range []int{0, 1, -1, up, down, up + 1, down - 1, up / 2, down / 2, 1000, -1000} {
		if by > 1000 || by < -1000 {
			continue
		}
		var want []impl.Mark
		if by >= down && by <= up {
			for _, mark := range list {
				want = append(want, impl.Mark{Minute: mark.Minute, Height: mark.Height + by})
			}
		}
		got, ok := impl.ShiftTide(list, by)
		wantMarks(t, fmt.Sprint("ShiftTide ", list, by), got, ok, want, want != nil)
		if ok {
			back, ok := impl.ShiftTide(got, -by)
			wantMarks(t, fmt.Sprint("ShiftTide ", got, -by), back, ok, list, true)
		}
	}
}

// checkTide holds every function against a tide minute by minute.
func checkTide(t *testing.T, list []impl.Mark) {
	t.Helper()
	list, check := guardedTide(t, list)
	if !impl.IsTide(list) {
		t.Error("a tide:", list)
	}
	floors, ceils := []int{}, []int{}
	for minute, x := range seaByMinutes(list) {
		num, den, ok := impl.TideAt(list, minute)
		wantTwo(t, fmt.Sprint("TideAt ", list, minute), num, den, ok, int(x.Num().Int64()), int(x.Denom().Int64()), true)
		floor, ceil := floorAndCeil(x)
		floors, ceils = append(floors, floor), append(ceils, ceil)
	}
	heights := sluiceHeights(list)
	for _, sill := range heights {
		area := 0
		for _, floor := range floors {
			if floor > sill {
				area += floor - sill
			}
		}
		got, ok := impl.AreaAbove(list, sill)
		wantInt(t, fmt.Sprint("AreaAbove ", list, sill), got, ok, area, true)
		for _, pond := range heights {
			checkSluice(t, list, floors, ceils, sill, pond)
		}
	}
	checkMarks(t, list)
	checkShifts(t, list)
	check()
}

// expectNoSluice wants zero values of each function with a sill and a pond.
func expectNoSluice(t *testing.T, list []impl.Mark, sill int, pond int) {
	t.Helper()
	call := fmt.Sprint(" ", list[:min(len(list), 14)], sill, pond)
	in, ok := impl.MinutesIn(list, sill, pond)
	wantInts(t, "MinutesIn"+call, in, ok, nil, false)
	out, ok := impl.MinutesOut(list, sill, pond)
	wantInts(t, "MinutesOut"+call, out, ok, nil, false)
	first, ok := impl.FirstIn(list, sill, pond)
	wantInt(t, "FirstIn"+call, first, ok, 0, false)
}

func TestIsTide(t *testing.T) {
	for n := 2; n <= impl.MaxTide; n++ {
		for _, height := range []int{-500, 0, 500} {
			if !impl.IsTide(flat(n, height)) {
				t.Error("a tide:", flat(n, height))
			}
		}
	}
	late := []impl.Mark{{}}
	for minute := lastMinute - 10; minute <= lastMinute; minute++ {
		late = append(late, impl.Mark{Minute: minute, Height: 500 - minute%2*1000})
	}
	for _, list := range append(handTides(), late) {
		if !impl.IsTide(list) {
			t.Error("a tide:", list)
		}
	}
	for _, list := range noTides() {
		if impl.IsTide(list) {
			t.Error("no tide:", list)
		}
	}
}

// TestIsTideOfAllNumbers tries each number of a tide apart from the others.
func TestIsTideOfAllNumbers(t *testing.T) {
	for n := -1500; n <= 1500; n++ {
		isHeight := n >= -500 && n <= 500
		for _, c := range []struct {
			list []impl.Mark
			want bool
		}{
			{tideOf(n, 0, lastMinute, 0), n == 0}, {tideOf(0, 0, n, 0), n == lastMinute}, {tideOf(0, 0, n, 0, lastMinute, 0), n > 0 && n < lastMinute},
			{tideOf(0, 0, 700, 0, n, 0, 800, 0, lastMinute, 0), n > 700 && n < 800},
			{straight(n, 0), isHeight}, {straight(0, n), isHeight}, {tideOf(0, 0, 9, n, lastMinute, 0), isHeight},
		} {
			if impl.IsTide(c.list) != c.want {
				t.Error(c.list, "is a tide: not", c.want)
			}
		}
	}
}

func TestTides(t *testing.T) {
	for _, list := range goodTides() {
		checkTide(t, list)
	}
}

func TestNoTides(t *testing.T) {
	for _, list := range noTides() {
		list, check := guardedTide(t, list)
		call := fmt.Sprint(" ", list[:min(len(list), 14)])
		for _, n := range []int{0, 1, -1, 100, -100, 500, -500} {
			num, den, ok := impl.TideAt(list, n)
			wantTwo(t, "TideAt"+call, num, den, ok, 0, 0, false)
			area, ok := impl.AreaAbove(list, n)
			wantInt(t, "AreaAbove"+call, area, ok, 0, false)
			shifted, ok := impl.ShiftTide(list, n)
			wantMarks(t, "ShiftTide"+call, shifted, ok, nil, false)
			expectNoSluice(t, list, n, -n)
			expectNoSluice(t, list, n, n)
		}
		num, den, ok := impl.TideAt(list, lastMinute)
		wantTwo(t, "TideAt"+call, num, den, ok, 0, 0, false)
		minute, height, ok := impl.HighestTide(list)
		wantTwo(t, "HighestTide"+call, minute, height, ok, 0, 0, false)
		turns, ok := impl.TurnsOf(list)
		wantInts(t, "TurnsOf"+call, turns, ok, nil, false)
		check()
	}
}

// TestShiftTideBackFromNoTide has lists that would be tides after the shift.
func TestShiftTideBackFromNoTide(t *testing.T) {
	for _, c := range []struct {
		list []impl.Mark
		by   int
	}{
		{straight(501, 0), -1}, {straight(0, 501), -1}, {straight(-501, 0), 1}, {straight(1500, 1500), -1000}, {straight(-1500, -1500), 1000},
		{straight(501, 501), -1000}, {tideOf(0, 0, 9, -501, lastMinute, 0), 500}, {straight(math.MinInt, math.MinInt), 1000},
	} {
		got, ok := impl.ShiftTide(c.list, c.by)
		wantMarks(t, fmt.Sprint("ShiftTide ", c.list, c.by), got, ok, nil, false)
	}
}

func TestTidesWithWrongNumbers(t *testing.T) {
	for _, list := range handTides() {
		list, check := guardedTide(t, list)
		call := fmt.Sprint(" ", list)
		for _, minute := range badMinutes {
			num, den, ok := impl.TideAt(list, minute)
			wantTwo(t, fmt.Sprint("TideAt", call, minute), num, den, ok, 0, 0, false)
		}
		for _, height := range badHeights {
			area, ok := impl.AreaAbove(list, height)
			wantInt(t, fmt.Sprint("AreaAbove", call, height), area, ok, 0, false)
			for _, other := range []int{0, 500, -500, height} {
				expectNoSluice(t, list, height, other)
				expectNoSluice(t, list, other, height)
			}
		}
		for _, by := range badShifts {
			shifted, ok := impl.ShiftTide(list, by)
			wantMarks(t, fmt.Sprint("ShiftTide", call, by), shifted, ok, nil, false)
		}
		check()
	}
}

func TestTideAt(t *testing.T) {
	sevenths := tideOf(0, 3, 7, 5, 14, -5, lastMinute, -500)
	for _, c := range []struct {
		list             []impl.Mark
		minute, num, den int
	}{
		{straight(0, 0), 0, 0, 1}, {straight(0, 0), 719, 0, 1}, {straight(0, 0), lastMinute, 0, 1},
		{straight(0, 1), 0, 0, 1}, {straight(0, 1), 1, 1, 1440}, {straight(0, 1), 7, 7, 1440}, {straight(0, 1), 720, 1, 2}, {straight(0, 1), 1439, 1439, 1440}, {straight(0, 1), lastMinute, 1, 1},
		{straight(0, -1), 1, -1, 1440}, {straight(0, -1), 960, -2, 3}, {straight(0, -1), lastMinute, -1, 1},
		{straight(1, -1), 720, 0, 1}, {straight(-1, 1), 720, 0, 1}, {straight(1, -1), 721, -1, 720}, {straight(-1, 1), 719, -1, 720}, {straight(-3, -2), 480, -8, 3},
		{straight(500, -500), 0, 500, 1}, {straight(500, -500), 1, 17975, 36}, {straight(500, -500), 720, 0, 1}, {straight(500, -500), 1439, -17975, 36}, {straight(500, -500), lastMinute, -500, 1},
		{straight(-500, 500), 1, -17975, 36}, {straight(-500, 500), lastMinute, 500, 1}, {straight(-500, -500), 33, -500, 1}, {straight(500, 500), 33, 500, 1},
		{sevenths, 0, 3, 1}, {sevenths, 1, 23, 7}, {sevenths, 6, 33, 7}, {sevenths, 7, 5, 1}, {sevenths, 8, 25, 7}, {sevenths, 10, 5, 7}, {sevenths, 11, -5, 7}, {sevenths, 13, -25, 7}, {sevenths, 14, -5, 1},
		{sevenths, 727, -505, 2}, {tideOf(0, 0, 1, -500, lastMinute, 0), 1, -500, 1}, {tideOf(0, 0, 1439, 7, lastMinute, -7), 1439, 7, 1}, {tideOf(0, 0, 1439, 7, lastMinute, -7), lastMinute, -7, 1},
		{flat(12, -3), 5, -3, 1}, {flat(12, 3), 1000, 3, 1}, {tideOf(0, 9, 500, 4, 506, 8, lastMinute, 8), 503, 6, 1}, {tideOf(0, 9, 500, 4, 506, 8, lastMinute, 8), 502, 16, 3},
	} {
		num, den, ok := impl.TideAt(c.list, c.minute)
		wantTwo(t, fmt.Sprint("TideAt ", c.list, c.minute), num, den, ok, c.num, c.den, true)
	}
}

func TestHighestTide(t *testing.T) {
	for _, c := range []struct {
		list           []impl.Mark
		minute, height int
	}{
		{straight(0, 1), lastMinute, 1}, {straight(1, 0), 0, 1}, {straight(7, 7), 0, 7}, {straight(-500, -500), 0, -500}, {straight(-500, -499), lastMinute, -499},
		{flat(12, 500), 0, 500}, {flat(12, -500), 0, -500}, {twoFloods(), 400, 250},
		{tideOf(0, -9, 3, -5, 4, -5, 5, -6, 6, -5, lastMinute, -7), 3, -5}, {tideOf(0, -9, 3, -5, 4, -4, 5, -4, lastMinute, -4), 4, -4},
		{tideOf(0, 20, 10, 3, 20, 20, lastMinute, 3), 0, 20}, {tideOf(0, 3, 10, 499, 20, 500, lastMinute, 500), 20, 500}, {tideOf(0, 3, 1439, 500, lastMinute, 500), 1439, 500},
	} {
		minute, height, ok := impl.HighestTide(c.list)
		wantTwo(t, fmt.Sprint("HighestTide ", c.list), minute, height, ok, c.minute, c.height, true)
	}
}

func TestSluices(t *testing.T) {
	peak := tideOf(0, 0, 10, 100, 20, 0, lastMinute, 0)
	valley := tideOf(0, 0, 10, -100, 20, 0, lastMinute, 0)
	edges := tideOf(0, 10, 1, 0, 1439, 0, lastMinute, 10)
	for _, c := range []struct {
		list       []impl.Mark
		sill, pond int
		in, out    []int
	}{
		// A sea just as high as the sill, as the pond, or as both.
		{straight(30, 30), 30, 0, nil, nil}, {straight(30, 30), 0, 30, nil, nil}, {straight(30, 30), 30, 30, nil, nil}, {straight(0, 0), 0, 0, nil, nil},
		{straight(30, 30), 29, 0, []int{0, 1440}, nil}, {straight(30, 30), 0, 29, []int{0, 1440}, nil}, {straight(30, 30), 29, 29, []int{0, 1440}, nil},
		{straight(30, 30), 30, 31, nil, []int{0, 1440}}, {straight(30, 30), 0, 31, nil, []int{0, 1440}}, {straight(30, 30), 31, 29, nil, nil},
		{straight(500, 500), 500, -500, nil, nil}, {straight(500, 500), 499, 499, []int{0, 1440}, nil}, {straight(500, 500), -500, 500, nil, nil},
		{straight(-500, -500), -500, -500, nil, nil}, {straight(-500, -500), -500, -499, nil, []int{0, 1440}}, {straight(-500, -500), 499, 500, nil, []int{0, 1440}},
		// A pond just as high as the sill, or lower than it.
		{peak, 50, 50, []int{6, 14}, nil}, {peak, 50, 51, []int{6, 14}, []int{0, 5, 15, 1440}}, {peak, 50, 49, []int{6, 14}, nil}, {valley, 20, 20, nil, nil}, {valley, -50, -50, []int{0, 4, 16, 1440}, nil},
		{valley, -51, -50, []int{0, 4, 16, 1440}, []int{6, 14}}, {valley, 0, 1, nil, []int{0, 1440}}, {valley, -100, -99, []int{0, 9, 11, 1440}, []int{10, 10}},
		// Spans of one minute, and at the ends of the day.
		{peak, 90, 0, []int{10, 10}, nil}, {peak, 99, 0, []int{10, 10}, nil}, {peak, 0, 99, []int{10, 10}, []int{0, 9, 11, 1440}}, {peak, 100, 0, nil, nil}, {peak, 89, 0, []int{9, 11}, nil},
		{edges, 5, 0, []int{0, 0, 1440, 1440}, nil}, {edges, 0, 5, []int{0, 0, 1440, 1440}, []int{1, 1439}}, {edges, -1, -1, []int{0, 1440}, nil}, {edges, 0, 10, nil, []int{1, 1439}},
		// Heights of the sea that are no whole centimeters.
		{straight(0, 1), 0, 0, []int{1, 1440}, nil}, {straight(0, 1), 0, 1, nil, []int{0, 1439}}, {straight(1, 0), 0, 0, []int{0, 1439}, nil}, {straight(1, 0), 0, 1, nil, []int{1, 1440}},
		{straight(0, -1), -1, -1, []int{0, 1439}, nil}, {straight(0, -1), -1, 0, nil, []int{1, 1440}}, {straight(-1, 0), -1, -1, []int{1, 1440}, nil}, {straight(-1, 0), -1, 0, nil, []int{0, 1439}},
		{tideOf(0, 0, 7, 2, 14, 0, lastMinute, 0), 1, -9, []int{4, 10}, nil}, {tideOf(0, 0, 7, 2, 14, 0, lastMinute, 0), 0, 1, []int{4, 10}, []int{0, 3, 11, 1440}},
		{straight(-500, 500), 0, 0, []int{721, 1440}, nil}, {straight(500, -500), -1, 0, []int{0, 719}, []int{721, 1440}}, {straight(500, -500), -500, 500, nil, []int{1, 1440}},
		{twoFloods(), 249, 0, []int{400, 430}, nil}, {twoFloods(), 250, 0, nil, nil}, {twoFloods(), -121, -119, []int{0, 98, 101, 699, 702, 1440}, []int{100, 100, 700, 701}},
	} {
		call := fmt.Sprint(" ", c.list, c.sill, c.pond)
		in, ok := impl.MinutesIn(c.list, c.sill, c.pond)
		wantInts(t, "MinutesIn"+call, in, ok, c.in, true)
		out, ok := impl.MinutesOut(c.list, c.sill, c.pond)
		wantInts(t, "MinutesOut"+call, out, ok, c.out, true)
		want := 0
		if len(c.in) > 0 {
			want = c.in[0]
		}
		first, ok := impl.FirstIn(c.list, c.sill, c.pond)
		wantInt(t, "FirstIn"+call, first, ok, want, len(c.in) > 0)
	}
}

// TestMostSpans has a sluice that opens as often as MaxTide Marks allow.
func TestMostSpans(t *testing.T) {
	waves := tideOf(0, 9, 2, -9, 4, 9, 6, -9, 8, 9, 10, -9, 12, 9, 14, -9, 16, 9, 18, -9, 20, 9, lastMinute, -9)
	in, ok := impl.MinutesIn(waves, 5, 0)
	wantInts(t, "MinutesIn", in, ok, []int{0, 0, 4, 4, 8, 8, 12, 12, 16, 16, 20, 335}, true)
	out, ok := impl.MinutesOut(waves, -9, -5)
	wantInts(t, "MinutesOut", out, ok, []int{2, 2, 6, 6, 10, 10, 14, 14, 18, 18, 1125, 1440}, true)
	turns, ok := impl.TurnsOf(waves)
	wantInts(t, "TurnsOf", turns, ok, []int{2, 4, 6, 8, 10, 12, 14, 16, 18, 20}, true)
}

func TestAreaAbove(t *testing.T) {
	for _, c := range []struct {
		list         []impl.Mark
		height, want int
	}{
		{straight(0, 0), 0, 0}, {straight(0, 0), -1, 1441}, {straight(0, 0), 1, 0}, {straight(0, 0), -10, 14410}, {straight(500, 500), 500, 0}, {straight(500, 500), 499, 1441},
		{straight(500, 500), -500, 1441000}, {straight(-500, -500), -500, 0}, {straight(-500, -500), 500, 0}, {straight(-500, -499), -500, 1},
		{straight(0, 1), 0, 1}, {straight(0, 1), 1, 0}, {straight(0, 1), -1, 1442}, {straight(1, 0), 0, 1}, {straight(1, 0), -1, 1442},
		{straight(0, -1), -1, 1}, {straight(0, -1), 0, 0}, {straight(0, -1), -2, 1442}, {straight(-1, 0), -1, 1}, {straight(-1, 0), -2, 1442},
		{straight(-1, 1), 0, 1}, {straight(-1, 1), -1, 722}, {straight(-1, 1), -2, 2163}, {straight(-400, -400), -500, 144100},
		{tideOf(0, 0, 10, 5, 20, 0, lastMinute, 0), 0, 45}, {tideOf(0, 0, 10, 5, 20, 0, lastMinute, 0), 3, 6}, {tideOf(0, 0, 10, 5, 20, 0, lastMinute, 0), 4, 1}, {tideOf(0, 0, 10, 5, 20, 0, lastMinute, 0), 5, 0},
		{tideOf(0, 7, 1, -500, 1439, -500, lastMinute, 9), 0, 16}, {tideOf(0, -5, 10, 5, 20, -5, lastMinute, -5), -2, 49}, {tideOf(0, -5, 10, 5, 20, -5, lastMinute, -5), -5, 100},
	} {
		got, ok := impl.AreaAbove(c.list, c.height)
		wantInt(t, fmt.Sprint("AreaAbove ", c.list, c.height), got, ok, c.want, true)
	}
}

func TestShiftTide(t *testing.T) {
	for _, c := range []struct {
		list []impl.Mark
		by   int
		want []impl.Mark
	}{
		{straight(0, 0), 0, straight(0, 0)}, {straight(0, 0), 500, straight(500, 500)}, {straight(0, 0), -500, straight(-500, -500)}, {straight(0, 0), 501, nil}, {straight(0, 0), -501, nil},
		{straight(-500, -500), 1000, straight(500, 500)}, {straight(500, 500), -1000, straight(-500, -500)}, {straight(-500, -500), 1001, nil}, {straight(500, 500), -1001, nil},
		{straight(-500, -499), 1000, nil}, {straight(-499, -500), 1000, nil}, {straight(500, 499), -1000, nil}, {straight(-500, -499), 999, straight(499, 500)}, {straight(-500, 500), 1, nil}, {straight(-500, 500), -1, nil},
		{tideOf(0, 0, 5, 400, lastMinute, 0), 100, tideOf(0, 100, 5, 500, lastMinute, 100)}, {tideOf(0, 0, 5, 400, lastMinute, 0), 101, nil}, {tideOf(0, 0, 5, -400, lastMinute, 0), -101, nil},
		{flat(12, 7), -7, flat(12, 0)}, {twoFloods(), 250, tideOf(0, 230, 100, 130, 400, 500, 430, 500, 700, 130, 1100, 483, lastMinute, 243)}, {twoFloods(), 251, nil}, {twoFloods(), -380, tideOf(0, -400, 100, -500, 400, -130, 430, -130, 700, -500, 1100, -147, lastMinute, -387)}, {twoFloods(), -381, nil},
	} {
		got, ok := impl.ShiftTide(c.list, c.by)
		wantMarks(t, fmt.Sprint("ShiftTide ", c.list, c.by), got, ok, c.want, c.want != nil)
	}
}

func TestTurnsOf(t *testing.T) {
	for _, c := range []struct {
		list []impl.Mark
		want []int
	}{
		{straight(0, 0), nil}, {straight(-500, 500), nil}, {flat(12, 0), nil}, {tideOf(0, 0, 5, 1, lastMinute, 2), nil}, {tideOf(0, 2, 5, 1, lastMinute, 0), nil},
		{tideOf(0, 0, 5, 1, lastMinute, 0), []int{5}}, {tideOf(0, 0, 5, -1, lastMinute, 0), []int{5}}, {tideOf(0, 0, 1, 500, lastMinute, -500), []int{1}}, {tideOf(0, 0, 1439, -500, lastMinute, 500), []int{1439}},
		{tideOf(0, 0, 5, 1, 6, 1, lastMinute, 0), nil}, {tideOf(0, 0, 5, 0, 6, 1, lastMinute, 1), nil}, {tideOf(0, 0, 5, 1, lastMinute, 1), nil}, {tideOf(0, 0, 5, 0, lastMinute, 1), nil}, {tideOf(0, 0, 5, 0, lastMinute, -1), nil}, {tideOf(0, 0, 5, -1, lastMinute, -1), nil},
		{tideOf(0, 0, 5, 1, 6, 0, 7, 1, lastMinute, 0), []int{5, 6, 7}}, {twoFloods(), []int{100, 700, 1100}}, {tideOf(0, -9, 5, -3, 6, -7, lastMinute, -7), []int{5}},
	} {
		got, ok := impl.TurnsOf(c.list)
		wantInts(t, fmt.Sprint("TurnsOf ", c.list), got, ok, c.want, true)
	}
}

func TestTideResultsAreApart(t *testing.T) {
	list := twoFloods()
	for range 2 {
		shifted, ok := impl.ShiftTide(list, 0)
		wantMarks(t, "ShiftTide", shifted, ok, twoFloods(), true)
		in, ok := impl.MinutesIn(list, 249, 0)
		wantInts(t, "MinutesIn", in, ok, []int{400, 430}, true)
		out, ok := impl.MinutesOut(list, -120, -119)
		wantInts(t, "MinutesOut", out, ok, []int{100, 100, 700, 701}, true)
		turns, ok := impl.TurnsOf(list)
		wantInts(t, "TurnsOf", turns, ok, []int{100, 700, 1100}, true)
		clear(shifted[:cap(shifted)])
		clear(in[:cap(in)])
		clear(out[:cap(out)])
		clear(turns[:cap(turns)])
		if !slices.Equal(list, twoFloods()) {
			t.Fatal("a result shares memory with its argument", list)
		}
	}
}
