package tests

import (
	"fmt"
	"math"
	"regexp"
	"slices"
	"strconv"
	"strings"
	"testing"

	"loop.example/g01019/impl"
)

const maxMass = 2 * impl.MaxWater

// noBrines are one beyond each limit, or at the ends of int; two sums of theirs wrap around to valid masses.
var noBrines = []impl.Brine{
	{Water: -1}, {Salt: -1}, {Water: -1, Salt: -1}, {Water: -1, Salt: 1}, {Water: 1, Salt: -1}, {Water: 900, Salt: -100},
	{Water: impl.MaxWater + 1}, {Salt: impl.MaxWater + 1}, {Water: impl.MaxWater + 1, Salt: 1}, {Water: 1, Salt: impl.MaxWater + 1},
	{Water: math.MaxInt}, {Salt: math.MaxInt}, {Water: math.MinInt}, {Salt: math.MinInt},
	{Water: math.MaxInt, Salt: math.MaxInt}, {Water: math.MinInt, Salt: math.MinInt},
	{Water: math.MinInt, Salt: math.MaxInt}, {Water: math.MaxInt, Salt: math.MinInt},
	{Water: 1 << 32, Salt: 1 << 32}, {Water: 1<<32 + 900, Salt: 100},
}

// bigBrines are at the ends of the limits, or near to them.
var bigBrines = []impl.Brine{
	{Water: impl.MaxWater}, {Salt: impl.MaxWater}, {Water: impl.MaxWater, Salt: impl.MaxWater},
	{Water: impl.MaxWater, Salt: 1}, {Water: 1, Salt: impl.MaxWater}, {Water: impl.MaxWater, Salt: impl.MaxWater - 1},
	{Water: impl.MaxWater - 1, Salt: impl.MaxWater}, {Water: 999983, Salt: 999979}, {Water: 123456, Salt: 654321},
	{Water: 900, Salt: 100}, {Water: 700001, Salt: 3}, {Water: 35, Salt: 999999},
}

// badNumbers are outside of each range of numbers of the chapter.
var badNumbers = []int{-1, -2, -1000, maxMass + 1, 1 << 32, math.MaxInt, math.MaxInt - 1, math.MinInt, math.MinInt + 1}

// smallBrines are all Brines with at most limit kilograms of Water and of Salt.
func smallBrines(limit int) []impl.Brine {
	var list []impl.Brine
	for water := range limit + 1 {
		for salt := range limit + 1 {
			list = append(list, impl.Brine{Water: water, Salt: salt})
		}
	}
	return list
}

// massOf is 0 just for the one valid Brine that has no mass.
func massOf(b impl.Brine) int { return b.Water + b.Salt }

func wantBrine(t *testing.T, call string, got impl.Brine, ok bool, want impl.Brine, wantOK bool) {
	t.Helper()
	if got != want || ok != wantOK {
		t.Errorf("%s: got %v, %v, want %v, %v", call, got, ok, want, wantOK)
	}
}

func TestIsBrine(t *testing.T) {
	for _, b := range append(bigBrines, smallBrines(3)...) {
		if !impl.IsBrine(b) {
			t.Error("a Brine:", b)
		}
	}
	for _, b := range noBrines {
		if impl.IsBrine(b) {
			t.Error("no Brine:", b)
		}
	}
}

func TestStrengthOf(t *testing.T) {
	for _, c := range []struct{ water, salt, num, den int }{
		{900, 100, 1, 10}, {7, 5, 5, 12}, {6, 4, 2, 5}, {4, 6, 3, 5}, {1, 1, 1, 2}, {1, 2, 2, 3},
		{5, 0, 0, 1}, {1, 0, 0, 1}, {impl.MaxWater, 0, 0, 1},
		{0, 5, 1, 1}, {0, 1, 1, 1}, {0, impl.MaxWater, 1, 1},
		{impl.MaxWater, impl.MaxWater, 1, 2}, {impl.MaxWater, 1, 1, 1000001}, {1, impl.MaxWater, 1000000, 1000001},
		{impl.MaxWater, impl.MaxWater - 1, 999999, 1999999}, {965000, 35000, 7, 200},
	} {
		num, den, ok := impl.StrengthOf(impl.Brine{Water: c.water, Salt: c.salt})
		if num != c.num || den != c.den || !ok {
			t.Errorf("StrengthOf(%d, %d) = %d, %d, %v, want %d, %d", c.water, c.salt, num, den, ok, c.num, c.den)
		}
	}
	for _, b := range append(noBrines, impl.Brine{}) {
		if num, den, ok := impl.StrengthOf(b); num != 0 || den != 0 || ok {
			t.Errorf("StrengthOf(%v) = %d, %d, %v", b, num, den, ok)
		}
	}
}

func TestStrengthIsInLowestTerms(t *testing.T) {
	for _, b := range smallBrines(30) {
		num, den, ok := impl.StrengthOf(b)
		if ok != (massOf(b) > 0) {
			t.Errorf("StrengthOf(%v) tells %v", b, ok)
		}
		if !ok {
			continue
		}
		if den < 1 || num*massOf(b) != b.Salt*den {
			t.Errorf("StrengthOf(%v) = %d / %d", b, num, den)
		}
		for d := 2; d <= den; d++ {
			if num%d == 0 && den%d == 0 {
				t.Errorf("StrengthOf(%v) = %d / %d, which %d divides", b, num, den, d)
			}
		}
	}
}

func TestMixBrines(t *testing.T) {
	full := impl.Brine{Water: impl.MaxWater, Salt: impl.MaxWater}
	for _, c := range []struct {
		list []impl.Brine
		want impl.Brine
	}{
		{nil, impl.Brine{}},
		{[]impl.Brine{}, impl.Brine{}},
		{[]impl.Brine{{}}, impl.Brine{}},
		{[]impl.Brine{{Water: 900, Salt: 100}}, impl.Brine{Water: 900, Salt: 100}},
		{[]impl.Brine{{Water: 900, Salt: 100}, {Water: 100}}, impl.Brine{Water: 1000, Salt: 100}},
		{[]impl.Brine{{Water: 1, Salt: 20}, {Water: 300, Salt: 4000}, {}, {Salt: 7}}, impl.Brine{Water: 301, Salt: 4027}},
		{[]impl.Brine{full}, full},
		{[]impl.Brine{full, {}}, full},
		{[]impl.Brine{{Water: impl.MaxWater}, {Salt: impl.MaxWater}}, full},
		{[]impl.Brine{{Water: impl.MaxWater - 1, Salt: 1}, {Water: 1, Salt: impl.MaxWater - 1}}, full},
		{make([]impl.Brine, 20), impl.Brine{}},
		{slices.Repeat([]impl.Brine{{Water: 50000, Salt: 50000}}, 20), full},
		{slices.Repeat([]impl.Brine{{Water: 3, Salt: 1}}, 20), impl.Brine{Water: 60, Salt: 20}},
	} {
		got, ok := impl.MixBrines(c.list)
		wantBrine(t, fmt.Sprint("MixBrines ", c.list), got, ok, c.want, true)
	}
}

func TestMixBrinesRejects(t *testing.T) {
	lists := [][]impl.Brine{
		make([]impl.Brine, 21), make([]impl.Brine, 5000),
		slices.Repeat([]impl.Brine{{Water: 3, Salt: 1}}, 21),
		{{Water: impl.MaxWater}, {Water: 1}}, {{Salt: impl.MaxWater}, {Salt: 1}},
		{{Water: 500000}, {Water: 500000}, {Water: 1}}, {{Salt: 500000}, {Salt: 500001}},
		slices.Repeat([]impl.Brine{{Water: impl.MaxWater, Salt: impl.MaxWater}}, 20),
		slices.Repeat([]impl.Brine{{Water: 50001}}, 20), slices.Repeat([]impl.Brine{{Salt: 50001}}, 20),
		{{Water: math.MaxInt, Salt: math.MaxInt}, {Water: math.MaxInt, Salt: math.MaxInt}, {Water: 2, Salt: 2}},
		{{Water: -1, Salt: 5}, {Water: 5, Salt: -1}}, {{Water: impl.MaxWater + 1}, {Water: -1}},
	}
	for _, b := range noBrines {
		lists = append(lists, []impl.Brine{b}, []impl.Brine{b, {Water: 2, Salt: 2}}, []impl.Brine{{Water: 900, Salt: 100}, {}, b})
	}
	for _, list := range lists {
		got, ok := impl.MixBrines(list)
		wantBrine(t, fmt.Sprint("MixBrines ", list), got, ok, impl.Brine{}, false)
	}
}

func TestMixBrinesLeavesItsListAlone(t *testing.T) {
	backing := []impl.Brine{{Water: 900, Salt: 100}, {Water: 7, Salt: 3}, {Water: -1, Salt: -1}, {Water: impl.MaxWater, Salt: 5}}
	before := slices.Clone(backing)
	got, ok := impl.MixBrines(backing[:2])
	wantBrine(t, "elements beyond the length are not read", got, ok, impl.Brine{Water: 907, Salt: 103}, true)
	impl.MixBrines(backing)
	impl.MixBrines(backing[:1])
	if !slices.Equal(backing, before) {
		t.Error("MixBrines changed its list", backing)
	}
}

func TestMixingDoesNotDependOnTheOrder(t *testing.T) {
	list := slices.Clone(bigBrines[7:])
	want := impl.Brine{}
	for i := range list {
		list[i].Water, list[i].Salt = list[i].Water/4, list[i].Salt/4
		want.Water, want.Salt = want.Water+list[i].Water, want.Salt+list[i].Salt
	}
	for range list {
		list = append(list[1:], list[0])
		got, ok := impl.MixBrines(list)
		wantBrine(t, fmt.Sprint("MixBrines ", list), got, ok, want, true)
	}
}

func TestTakePart(t *testing.T) {
	for _, c := range []struct {
		water, salt, n, partWater, partSalt int
	}{
		{900, 100, 500, 450, 50}, {900, 100, 5, 5, 0}, {900, 100, 9, 9, 0}, {900, 100, 10, 9, 1}, {900, 100, 19, 18, 1},
		{900, 100, 999, 900, 99}, {900, 100, 1000, 900, 100}, {900, 100, 0, 0, 0}, {0, 0, 0, 0, 0},
		{1, 1, 1, 1, 0}, {1, 2, 1, 1, 0}, {1, 2, 2, 1, 1}, {2, 1, 2, 2, 0}, {1, 2, 3, 1, 2},
		{0, 7, 3, 0, 3}, {0, 7, 7, 0, 7}, {7, 0, 3, 3, 0}, {7, 0, 7, 7, 0}, {0, 7, 0, 0, 0}, {7, 0, 0, 0, 0},
		{impl.MaxWater, impl.MaxWater, maxMass, impl.MaxWater, impl.MaxWater},
		{impl.MaxWater, impl.MaxWater, maxMass - 1, impl.MaxWater, impl.MaxWater - 1},
		{impl.MaxWater, impl.MaxWater, 1, 1, 0}, {impl.MaxWater, impl.MaxWater, 0, 0, 0},
		{impl.MaxWater, 1, impl.MaxWater, impl.MaxWater, 0}, {impl.MaxWater, 1, impl.MaxWater + 1, impl.MaxWater, 1},
		{1, impl.MaxWater, impl.MaxWater, 1, impl.MaxWater - 1}, {123456, 654321, 100000, 15873, 84127},
	} {
		b := impl.Brine{Water: c.water, Salt: c.salt}
		part, left, ok := impl.TakePart(b, c.n)
		wantBrine(t, fmt.Sprint("the part of ", c.n, " of ", b), part, ok, impl.Brine{Water: c.partWater, Salt: c.partSalt}, true)
		wantBrine(t, fmt.Sprint("left by ", c.n, " of ", b), left, ok, impl.Brine{Water: c.water - c.partWater, Salt: c.salt - c.partSalt}, true)
	}
}

func expectNoPart(t *testing.T, b impl.Brine, n int) {
	t.Helper()
	part, left, ok := impl.TakePart(b, n)
	wantBrine(t, fmt.Sprint("no part of ", n, " of ", b), part, ok, impl.Brine{}, false)
	wantBrine(t, fmt.Sprint("not left by ", n, " of ", b), left, ok, impl.Brine{}, false)
}

func TestTakePartRejects(t *testing.T) {
	for _, b := range noBrines {
		for _, n := range append(badNumbers, 0, 1, b.Water+b.Salt) {
			expectNoPart(t, b, n)
		}
	}
	for _, b := range append(bigBrines, smallBrines(3)...) {
		for _, n := range append(badNumbers, massOf(b)+1) {
			expectNoPart(t, b, n)
		}
	}
}

// checkPart holds a part of n kilograms against its rule, and mixes it with what is left.
func checkPart(t *testing.T, b impl.Brine, n int) {
	t.Helper()
	part, left, ok := impl.TakePart(b, n)
	if !ok || !impl.IsBrine(part) || !impl.IsBrine(left) || massOf(part) != n {
		t.Errorf("TakePart(%v, %d) = %v, %v, %v", b, n, part, left, ok)
	}
	// Rounding down means that one kilogram of Salt more would be too much.
	if n > 0 && (part.Salt*massOf(b) > b.Salt*n || (part.Salt+1)*massOf(b) <= b.Salt*n) {
		t.Errorf("TakePart(%v, %d) takes %d kilograms of Salt", b, n, part.Salt)
	}
	mixed, ok := impl.MixBrines([]impl.Brine{part, left})
	wantBrine(t, fmt.Sprint("mixed again after ", n), mixed, ok, b, true)
}

func TestTakingKeepsTheSums(t *testing.T) {
	for _, b := range smallBrines(12) {
		for n := range massOf(b) + 1 {
			checkPart(t, b, n)
		}
	}
	for _, b := range bigBrines {
		for n := 0; n < massOf(b); n += 1 + massOf(b)/997 {
			checkPart(t, b, n)
		}
		checkPart(t, b, massOf(b)-1)
		checkPart(t, b, massOf(b))
	}
}

func TestWaterToLose(t *testing.T) {
	for _, c := range []struct{ water, salt, num, den, want int }{
		{900, 100, 1, 4, 600}, {900, 100, 1, 10, 0}, {900, 100, 1, 20, 0}, {900, 100, 1, 1000, 0}, {900, 100, 1, 1, 900},
		{900, 100, 100, 999, 1}, {900, 100, 101, 1000, 10}, {900, 100, 1, 3, 700}, {900, 100, 2, 3, 850}, {900, 100, 3, 7, 767},
		{900, 100, 2, 20, 0}, {900, 100, 2, 8, 600}, {900, 100, 1000, 1000, 900}, {900, 100, 999, 1000, 900},
		{0, 1, 1, 1, 0}, {0, 1, 1, 1000, 0}, {1, 1, 1, 1, 1}, {1, 1, 1, 2, 0}, {1, 1, 2, 3, 1},
		{1000, 1, 1, 1000, 1}, {999, 1, 1, 1000, 0}, {impl.MaxWater, 1, 1, 1000, 999001}, {impl.MaxWater, 1, 1, 1, impl.MaxWater},
		{impl.MaxWater, impl.MaxWater, 1, 2, 0}, {impl.MaxWater, impl.MaxWater, 501, 1000, 3993},
		{impl.MaxWater, impl.MaxWater, 1000, 1000, impl.MaxWater}, {0, impl.MaxWater, 1, 1000, 0},
	} {
		b := impl.Brine{Water: c.water, Salt: c.salt}
		got, ok := impl.WaterToLose(b, c.num, c.den)
		wantInt(t, fmt.Sprint("WaterToLose ", b, c.num, c.den), got, ok, c.want, true)
	}
}

func TestWaterToAdd(t *testing.T) {
	for _, c := range []struct{ water, salt, num, den, want int }{
		{900, 100, 1, 20, 1000}, {900, 100, 1, 10, 0}, {900, 100, 1, 4, 0}, {900, 100, 1, 1, 0}, {900, 100, 1, 1000, 99000},
		{900, 100, 99, 1000, 11}, {900, 100, 100, 999, 0}, {900, 100, 2, 21, 50}, {900, 100, 3, 31, 34}, {900, 100, 7, 100, 429},
		{900, 100, 2, 40, 1000}, {900, 100, 1000, 1000, 0},
		{5, 0, 1, 1000, 0}, {1, 0, 1, 1, 0}, {impl.MaxWater, 0, 1, 1000, 0}, {0, 1, 1, 1, 0}, {0, 1, 1, 2, 1}, {0, 1, 2, 3, 1},
		{0, 1, 1, 1000, 999}, {0, 2, 3, 7, 3}, {1, 2, 3, 7, 2}, {999, 1, 1, 1000, 0}, {998, 1, 1, 1000, 1},
		{0, impl.MaxWater, 1, 1, 0}, {0, impl.MaxWater, 1, 2, impl.MaxWater}, {impl.MaxWater, impl.MaxWater, 1, 2, 0},
		{0, 1001, 1, 1000, 999999}, {999998, 1001, 1, 1000, 1}, {0, 250000, 1, 5, impl.MaxWater}, {impl.MaxWater, 250000, 1, 5, 0},
		{impl.MaxWater, impl.MaxWater, 999, 1000, 0},
	} {
		b := impl.Brine{Water: c.water, Salt: c.salt}
		got, ok := impl.WaterToAdd(b, c.num, c.den)
		wantInt(t, fmt.Sprint("WaterToAdd ", b, c.num, c.den), got, ok, c.want, true)
	}
}

func TestWaterToAddBeyondMaxWater(t *testing.T) {
	for _, c := range []struct{ water, salt, num, den int }{
		{0, 9901, 1, 102}, {impl.MaxWater, 9901, 1, 102}, {0, 1002, 1, 1000}, {impl.MaxWater, 1002, 1, 1000}, {0, 250001, 1, 5}, {impl.MaxWater, 250001, 1, 5},
		{0, impl.MaxWater, 499, 999}, {impl.MaxWater, impl.MaxWater, 499, 1000}, {0, impl.MaxWater, 1, 1000},
		{impl.MaxWater, impl.MaxWater, 1, 1000}, {999999, 500001, 1, 3}, {0, 500001, 1, 3},
	} {
		b := impl.Brine{Water: c.water, Salt: c.salt}
		got, ok := impl.WaterToAdd(b, c.num, c.den)
		wantInt(t, fmt.Sprint("WaterToAdd ", b, c.num, c.den), got, ok, 0, false)
	}
}

func TestWaterToLoseOrAddRejects(t *testing.T) {
	expect := func(b impl.Brine, num int, den int) {
		t.Helper()
		call := fmt.Sprint(b, num, den)
		lost, ok := impl.WaterToLose(b, num, den)
		wantInt(t, "WaterToLose "+call, lost, ok, 0, false)
		added, ok := impl.WaterToAdd(b, num, den)
		wantInt(t, "WaterToAdd "+call, added, ok, 0, false)
	}
	for _, b := range append(noBrines, impl.Brine{}) {
		expect(b, 1, 4)
		expect(b, 1, 1)
	}
	for _, b := range bigBrines {
		for _, n := range append(badNumbers, 0, 1001) {
			expect(b, n, n)
			expect(b, 1, n)
			expect(b, n, 1000)
			expect(b, n, math.MaxInt)
		}
		for _, c := range [][2]int{{0, 1}, {1, 0}, {-1, 4}, {1, -4}, {-1, -4}, {2, 1}, {1000, 999}, {5, 4}, {1, 1001}, {1001, 1000}, {1001, 1001}} {
			expect(b, c[0], c[1])
		}
	}
	for _, b := range []impl.Brine{{Water: 1}, {Water: impl.MaxWater}} {
		got, ok := impl.WaterToLose(b, 1, 4)
		wantInt(t, fmt.Sprint("WaterToLose without Salt ", b), got, ok, 0, false)
	}
}

// isAtLeast reports whether a Brine with a mass has at least the strength num / den.
func isAtLeast(water, salt, num, den int) bool { return salt*den >= num*(water+salt) }

// isAtMost reports the same of at most this strength.
func isAtMost(water, salt, num, den int) bool { return salt*den <= num*(water+salt) }

func checkWaterToLose(t *testing.T, b impl.Brine, num, den int) {
	t.Helper()
	n, ok := impl.WaterToLose(b, num, den)
	if !ok || n < 0 || n > b.Water || !isAtLeast(b.Water-n, b.Salt, num, den) {
		t.Errorf("WaterToLose(%v, %d, %d) = %d, %v", b, num, den, n, ok)
	}
	if n > 0 && isAtLeast(b.Water-n+1, b.Salt, num, den) {
		t.Errorf("WaterToLose(%v, %d, %d) = %d is not the smallest number", b, num, den, n)
	}
}

func checkWaterToAdd(t *testing.T, b impl.Brine, num, den int) {
	t.Helper()
	n, ok := impl.WaterToAdd(b, num, den)
	if ok != isAtMost(impl.MaxWater, b.Salt, num, den) {
		t.Errorf("WaterToAdd(%v, %d, %d) = %d, %v", b, num, den, n, ok)
	}
	if !ok {
		wantInt(t, fmt.Sprint("WaterToAdd ", b, num, den), n, ok, 0, false)
		return
	}
	if n < 0 || b.Water+n > impl.MaxWater || !isAtMost(b.Water+n, b.Salt, num, den) {
		t.Errorf("WaterToAdd(%v, %d, %d) = %d", b, num, den, n)
	}
	if n > 0 && isAtMost(b.Water+n-1, b.Salt, num, den) {
		t.Errorf("WaterToAdd(%v, %d, %d) = %d is not the smallest number", b, num, den, n)
	}
}

func TestWaterToLoseOrAddIsTheSmallest(t *testing.T) {
	for den := 1; den <= 12; den++ {
		for num := 1; num <= den; num++ {
			for _, b := range smallBrines(12) {
				if b.Salt > 0 {
					checkWaterToLose(t, b, num, den)
				}
				if massOf(b) > 0 {
					checkWaterToAdd(t, b, num, den)
				}
			}
		}
	}
	for _, den := range []int{1, 2, 3, 97, 499, 998, 999, 1000} {
		for num := 1; num <= den; num++ {
			for _, b := range bigBrines {
				if b.Salt > 0 {
					checkWaterToLose(t, b, num, den)
				}
				checkWaterToAdd(t, b, num, den)
			}
		}
	}
}

func TestIsStronger(t *testing.T) {
	ascending := []impl.Brine{
		{Water: 5}, {Water: impl.MaxWater, Salt: 1}, {Water: impl.MaxWater - 1, Salt: 1}, {Water: 900, Salt: 99}, {Water: 900, Salt: 100},
		{Water: 899, Salt: 100}, {Water: 2, Salt: 1}, {Water: impl.MaxWater, Salt: impl.MaxWater - 1}, {Water: impl.MaxWater, Salt: impl.MaxWater},
		{Water: impl.MaxWater - 1, Salt: impl.MaxWater}, {Water: 1, Salt: impl.MaxWater - 1}, {Water: 1, Salt: impl.MaxWater}, {Salt: 3},
	}
	for i, a := range ascending {
		for j, b := range ascending {
			if got, ok := impl.IsStronger(a, b); got != (i > j) || !ok {
				t.Errorf("IsStronger(%v, %v) = %v, %v", a, b, got, ok)
			}
		}
	}
	for _, same := range [][2]impl.Brine{
		{{Water: 900, Salt: 100}, {Water: 9, Salt: 1}}, {{Water: 1}, {Water: impl.MaxWater}}, {{Salt: 1}, {Salt: impl.MaxWater}},
		{{Water: 7, Salt: 7}, {Water: impl.MaxWater, Salt: impl.MaxWater}},
	} {
		one, okOne := impl.IsStronger(same[0], same[1])
		other, okOther := impl.IsStronger(same[1], same[0])
		if one || other || !okOne || !okOther {
			t.Error("the same strength:", same, one, other, okOne, okOther)
		}
	}
}

func TestIsStrongerRejects(t *testing.T) {
	for _, b := range append(noBrines, impl.Brine{}) {
		for _, other := range append(bigBrines, append(noBrines, impl.Brine{})...) {
			if got, ok := impl.IsStronger(b, other); got || ok {
				t.Errorf("IsStronger(%v, %v) = %v, %v", b, other, got, ok)
			}
			if got, ok := impl.IsStronger(other, b); got || ok {
				t.Errorf("IsStronger(%v, %v) = %v, %v", other, b, got, ok)
			}
		}
	}
}

func TestIsStrongerAgreesWithStrengthOf(t *testing.T) {
	list := smallBrines(8)[1:]
	for _, a := range list {
		for _, b := range list {
			numA, denA, _ := impl.StrengthOf(a)
			numB, denB, _ := impl.StrengthOf(b)
			if got, ok := impl.IsStronger(a, b); got != (numA*denB > numB*denA) || !ok {
				t.Errorf("IsStronger(%v, %v) = %v, %v", a, b, got, ok)
			}
		}
	}
}

func TestSplitBrine(t *testing.T) {
	for _, c := range []struct {
		b     impl.Brine
		parts int
		want  []impl.Brine
	}{
		{impl.Brine{Water: 900, Salt: 100}, 3, []impl.Brine{{Water: 300, Salt: 34}, {Water: 300, Salt: 33}, {Water: 300, Salt: 33}}},
		{impl.Brine{Water: 900, Salt: 100}, 1, []impl.Brine{{Water: 900, Salt: 100}}},
		{impl.Brine{Water: 11, Salt: 6}, 4, []impl.Brine{{Water: 3, Salt: 2}, {Water: 3, Salt: 2}, {Water: 3, Salt: 1}, {Water: 2, Salt: 1}}},
		{impl.Brine{Water: 1, Salt: 1}, 3, []impl.Brine{{Water: 1, Salt: 1}, {}, {}}},
		{impl.Brine{Salt: 2}, 3, []impl.Brine{{Salt: 1}, {Salt: 1}, {}}},
		{impl.Brine{}, 1, make([]impl.Brine, 1)},
		{impl.Brine{}, 20, make([]impl.Brine, 20)},
		{impl.Brine{Water: 1}, 20, append([]impl.Brine{{Water: 1}}, make([]impl.Brine, 19)...)},
		{impl.Brine{Water: impl.MaxWater, Salt: impl.MaxWater}, 1, []impl.Brine{{Water: impl.MaxWater, Salt: impl.MaxWater}}},
		{impl.Brine{Water: impl.MaxWater, Salt: impl.MaxWater}, 20, slices.Repeat([]impl.Brine{{Water: 50000, Salt: 50000}}, 20)},
	} {
		got, ok := impl.SplitBrine(c.b, c.parts)
		if !slices.Equal(got, c.want) || !ok {
			t.Errorf("SplitBrine(%v, %d) = %v, %v, want %v", c.b, c.parts, got, ok, c.want)
		}
	}
}

func TestSplitBrineRejects(t *testing.T) {
	expect := func(b impl.Brine, parts int) {
		t.Helper()
		if got, ok := impl.SplitBrine(b, parts); len(got) != 0 || ok {
			t.Errorf("SplitBrine(%v, %d) = %v, %v", b, parts, got, ok)
		}
	}
	for _, b := range noBrines {
		for _, parts := range append(badNumbers, 0, 1, 3, 20, 21) {
			expect(b, parts)
		}
	}
	for _, b := range append(bigBrines, impl.Brine{}) {
		for _, parts := range append(badNumbers, 0, 21, 100) {
			expect(b, parts)
		}
	}
}

func TestSplittingKeepsTheSums(t *testing.T) {
	for _, b := range append(bigBrines, smallBrines(25)...) {
		for parts := 1; parts <= 20; parts++ {
			list, ok := impl.SplitBrine(b, parts)
			if !ok || len(list) != parts {
				t.Errorf("SplitBrine(%v, %d) = %v, %v", b, parts, list, ok)
			}
			for i, x := range list {
				isFirstOfWater, isFirstOfSalt := i < b.Water%parts, i < b.Salt%parts
				if (x.Water == b.Water/parts) == isFirstOfWater || (x.Salt == b.Salt/parts) == isFirstOfSalt {
					t.Errorf("SplitBrine(%v, %d) has %v as its part %d", b, parts, x, i)
				}
			}
			mixed, ok := impl.MixBrines(list)
			wantBrine(t, fmt.Sprint("mixed again from ", parts), mixed, ok, b, true)
		}
	}
}

func TestSplitResultsAreApart(t *testing.T) {
	b := impl.Brine{Water: 900, Salt: 100}
	first, _ := impl.SplitBrine(b, 3)
	second, _ := impl.SplitBrine(b, 3)
	first[0] = impl.Brine{Water: 1, Salt: 1}
	if mixed, ok := impl.MixBrines(second); mixed != b || !ok {
		t.Error("an earlier result was changed", second)
	}
}

func TestBrineText(t *testing.T) {
	for text, b := range map[string]impl.Brine{
		"w900 s100": {Water: 900, Salt: 100}, "w0 s0": {}, "w1 s0": {Water: 1}, "w0 s1": {Salt: 1}, "w10 s20": {Water: 10, Salt: 20},
		"w1000000 s1000000": {Water: impl.MaxWater, Salt: impl.MaxWater}, "w1000000 s0": {Water: impl.MaxWater},
		"w0 s1000000": {Salt: impl.MaxWater}, "w999999 s999999": {Water: 999999, Salt: 999999}, "w35 s965": {Water: 35, Salt: 965},
	} {
		got, ok := impl.BrineText(b)
		wantString(t, "BrineText", got, ok, text, true)
		parsed, ok := impl.ParseBrine(text)
		wantBrine(t, "ParseBrine "+text, parsed, ok, b, true)
	}
	for _, b := range noBrines {
		got, ok := impl.BrineText(b)
		wantString(t, fmt.Sprint("BrineText ", b), got, ok, "", false)
	}
}

func TestParseBrineRejects(t *testing.T) {
	for _, s := range []string{
		"", " ", "w", "s", "w s", "w900", "s100", "w900 s", "w s100", "w900 ", "900 100", "900 s100", "w900 100", " s100", "w900s100",
		"w0900 s100", "w900 s0100", "w00 s0", "w0 s00", "w+900 s100", "w900 s+100", "w-1 s100", "w900 s-1", "w-0 s0", "w0 s-0",
		"w900  s100", " w900 s100", "w900 s100 ", "w 900 s100", "w900 s 100", "w900\ts100", "w900\ns100", "w900 s100\n", "w900 s100\x00",
		"W900 s100", "w900 S100", "x900 s100", "w900 x100", "s100 w900", "ww900 s100", "w900 ss100", "w900 s100 s100", "w900 s100w900 s100",
		"w9x s100", "w900 s1x", "w9_0 s1_0", "w1e3 s100", "w0x9 s100", "w9.0 s100", "w９ s100", "w900 s\xff", "é900 s100",
		"w1000001 s0", "w0 s1000001", "w01000000 s0", "w9999999 s0", "w0 s10000000", "w4294968196 s100",
		"w9223372036854775807 s0", "w0 s9223372036854775808", "w18446744073709552516 s100", "w-9223372036854775808 s0",
		"w" + strings.Repeat("0", 5000) + "900 s100", "w" + strings.Repeat("9", 5000) + " s100", "w900 s" + strings.Repeat("1", 5000),
		strings.Repeat("w900 s100", 5000), strings.Repeat(" s", 5000),
	} {
		got, ok := impl.ParseBrine(s)
		wantBrine(t, "ParseBrine "+strconv.Quote(s), got, ok, impl.Brine{}, false)
	}
}

func TestBrineTextRoundTrip(t *testing.T) {
	for _, b := range append(bigBrines, smallBrines(120)...) {
		text, ok := impl.BrineText(b)
		wantString(t, "BrineText", text, ok, fmt.Sprintf("w%d s%d", b.Water, b.Salt), true)
		got, ok := impl.ParseBrine(text)
		wantBrine(t, "ParseBrine "+text, got, ok, b, true)
	}
}

var brinePattern = regexp.MustCompile(`^w(0|[1-9][0-9]{0,6}) s(0|[1-9][0-9]{0,6})$`)

// checkParsed holds ParseBrine against the pattern of the texts and their limits.
func checkParsed(t *testing.T, s string) {
	t.Helper()
	want, isText := impl.Brine{}, false
	if words := brinePattern.FindStringSubmatch(s); words != nil {
		water, _ := strconv.Atoi(words[1])
		salt, _ := strconv.Atoi(words[2])
		if water <= impl.MaxWater && salt <= impl.MaxWater {
			want, isText = impl.Brine{Water: water, Salt: salt}, true
		}
	}
	got, ok := impl.ParseBrine(s)
	wantBrine(t, "ParseBrine "+strconv.Quote(s), got, ok, want, isText)
}

// TestParseBrineOfChangedTexts leaves bytes of texts out, and changes and puts in each of the others.
func TestParseBrineOfChangedTexts(t *testing.T) {
	for _, text := range []string{"w900 s100", "w0 s0", "w1000000 s1000000", "w10 s999999"} {
		for i := range len(text) + 1 {
			for c := range 256 {
				put := string([]byte{byte(c)})
				checkParsed(t, text[:i]+put+text[i:])
				if i < len(text) {
					checkParsed(t, text[:i]+put+text[i+1:])
				}
			}
			for j := i; j <= len(text); j++ {
				checkParsed(t, text[:i]+text[j:])
			}
		}
	}
}

// TestParseBrineOfShortTexts tries every text of at most six of the signs that texts have.
func TestParseBrineOfShortTexts(t *testing.T) {
	texts := []string{""}
	for start := 0; start < len(texts); start++ {
		checkParsed(t, texts[start])
		if len(texts[start]) == 6 {
			continue
		}
		for _, c := range "ws 012-" {
			texts = append(texts, texts[start]+string(c))
		}
	}
}
