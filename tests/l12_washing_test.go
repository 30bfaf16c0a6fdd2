package tests

import (
	"fmt"
	"math"
	"math/big"
	"math/rand/v2"
	"slices"
	"sort"
	"testing"

	"loop.example/g01019/impl"
)

const (
	greatestBatchSalt  = 100000
	greatestBatchGrams = 100000000
	mostWashed         = 10
	mostStages         = 6
)

// badBatchSalts are no Salt of a Batch.
var badBatchSalts = []int{-1, -2, -1000, -greatestBatchSalt, greatestBatchSalt + 1, greatestBatchSalt + 2, greatestBatchGrams, 1 << 32, 1<<32 + 1, 1 << 60, math.MaxInt, math.MaxInt - 1, math.MinInt, math.MinInt + 1}

// badBatchGrams are neither Dirt nor Water of a Batch; with some of them sums and products wrap around.
var badBatchGrams = []int{-1, -2, -1000, -greatestBatchGrams, greatestBatchGrams + 1, greatestBatchGrams + 2, 2 * greatestBatchGrams, 1 << 32, 1<<32 + 1, 1 << 60, 1 << 62, math.MaxInt, math.MaxInt - 1, math.MinInt, math.MinInt + 1}

// badWashingWaters are no grams of washing water; they are multiples of many numbers of stages.
var badWashingWaters = append([]int{0, -4, -6, -12, -60, -120, greatestBatchGrams + 4, 120000000, 600000000}, badBatchGrams...)

// badStages are no numbers of stages; some of them divide washing water.
var badStages = []int{0, -1, -2, -6, mostStages + 1, mostStages + 2, 9, 10, 12, 60, 1 << 32, 1<<32 + 1, 1<<32 + 2, math.MaxInt, math.MaxInt - 1, math.MinInt, math.MinInt + 1}

var badPercents = []int{-1, -2, -50, -100, 101, 102, 150, 200, 1 << 32, 1<<32 + 50, 1 << 60, 1 << 62, math.MaxInt, math.MaxInt - 1, math.MinInt, math.MinInt + 1}

func batch(salt int, dirt int, water int) impl.Batch {
	return impl.Batch{Salt: salt, Dirt: dirt, Water: water}
}

// batches returns Batches of Dirt and Water each, with a Salt that tells their place.
func batches(numbers ...int) []impl.Batch {
	list := []impl.Batch{}
	for i := 0; i < len(numbers); i += 2 {
		list = append(list, batch(i/2, numbers[i], numbers[i+1]))
	}
	return list
}

// sameBatches returns n Batches that are alike.
func sameBatches(n int, b impl.Batch) []impl.Batch { return slices.Repeat([]impl.Batch{b}, n) }

// handBatches are Batches with all that the chapter names.
var handBatches = []impl.Batch{
	// Nothing but zeros, or but one number.
	{}, batch(1, 0, 0), batch(greatestBatchSalt, 0, 0), batch(0, 1, 0), batch(0, greatestBatchGrams, 0), batch(0, 0, 1), batch(0, 0, greatestBatchGrams),
	// Without Water, without Dirt, and without Salt.
	batch(1000, 500, 0), batch(greatestBatchSalt, greatestBatchGrams, 0), batch(7, 1, 0), batch(1000, 0, 500), batch(greatestBatchSalt, 0, greatestBatchGrams), batch(0, 500, 1000), batch(0, greatestBatchGrams, greatestBatchGrams), batch(0, 1, 1),
	// With all three.
	batch(1000, 500, 1000), batch(1, 1, 1), batch(1, 1, greatestBatchGrams), batch(1, greatestBatchGrams, 1), batch(3, 7, 11), batch(5, 100, 50), batch(5, 50, 100), batch(12, 1000, 1001), batch(90000, 99999999, 3), batch(17, 3, 99999999), batch(2, 60, 60),
	batch(greatestBatchSalt, greatestBatchGrams, greatestBatchGrams), batch(greatestBatchSalt-1, greatestBatchGrams-1, greatestBatchGrams-1), batch(99, 50000000, 50000000), batch(100, 12345678, 87654321), batch(6, 99999989, 99999971),
}

// washingWaters are grams with multiples of all numbers of stages, of some of them, and of none but 1.
var washingWaters = []int{1, 2, 3, 4, 5, 6, 7, 10, 11, 12, 15, 30, 60, 77, 97, 120, 840, 1000, 1001, 4000, 999983, 1000000, 49999999, 99999960, 99999989, greatestBatchGrams - 1, greatestBatchGrams}

// randomGrams returns grams with few or many digits.
func randomGrams(r *rand.Rand) int {
	most := []int{1, 3, 12, 100, 5000, 1000000, greatestBatchGrams}[r.IntN(7)]
	return r.IntN(most + 1)
}

func randomBatch(r *rand.Rand) impl.Batch {
	return batch(r.IntN([]int{2, 20, greatestBatchSalt + 1}[r.IntN(3)]), randomGrams(r), randomGrams(r))
}

// randomWater returns washing water that is often a multiple of some numbers of stages.
func randomWater(r *rand.Rand) int {
	times := []int{1, 2, 3, 4, 5, 6, 12, 60}[r.IntN(8)]
	return min(max(randomGrams(r)/times, 1)*times, greatestBatchGrams)
}

// randomBatches returns 1..10 Batches with numbers of the same size, and washing water that is sometimes too little for their Dirt.
func randomBatches(r *rand.Rand) ([]impl.Batch, int) {
	most := []int{2, 9, 100, 20000, greatestBatchGrams}[r.IntN(5)]
	list := []impl.Batch{}
	for range 1 + r.IntN(mostWashed) {
		b := batch(r.IntN(greatestBatchSalt+1), r.IntN(most+1), r.IntN(most+1))
		switch r.IntN(6) {
		case 0:
			b.Water = 0
		case 1:
			b.Dirt = 0
		}
		list = append(list, b)
	}
	return list, min(1+r.IntN(most*(1+r.IntN(10))), greatestBatchGrams)
}

// noBatches have a number that is beyond its limit.
func noBatches() []impl.Batch {
	list := []impl.Batch{batch(-1, -1, -1), batch(math.MinInt, math.MinInt, math.MinInt), batch(math.MaxInt, math.MaxInt, math.MaxInt), batch(greatestBatchSalt+1, greatestBatchGrams+1, greatestBatchGrams+1), batch(0, math.MaxInt, math.MinInt), batch(0, math.MinInt, math.MaxInt)}
	for _, b := range []impl.Batch{{}, batch(1000, 500, 1000), batch(greatestBatchSalt, greatestBatchGrams, greatestBatchGrams), batch(0, 0, 1)} {
		for _, salt := range badBatchSalts {
			list = append(list, batch(salt, b.Dirt, b.Water))
		}
		for _, grams := range badBatchGrams {
			list = append(list, batch(b.Salt, grams, b.Water), batch(b.Salt, b.Dirt, grams))
		}
	}
	return list
}

// guardedBatches returns the list as the start of a longer one, and what checks that neither changed.
func guardedBatches(t *testing.T, list []impl.Batch) ([]impl.Batch, func()) {
	backing := append(slices.Clone(list), batch(5, 7, 9), batch(-1, math.MinInt, math.MaxInt))
	before := slices.Clone(backing)
	return backing[:len(list)], func() {
		t.Helper()
		if !slices.Equal(backing, before) {
			t.Errorf("%v was changed to %v", before, backing)
		}
	}
}

// fewBatches returns the start of a list that may be long, for messages.
func fewBatches(list []impl.Batch) []impl.Batch { return list[:min(len(list), 12)] }

func wantBatch(t *testing.T, call string, got impl.Batch, ok bool, want impl.Batch, wantOK bool) {
	t.Helper()
	if got != want || ok != wantOK {
		t.Errorf("%s: got %v, %v, want %v, %v", call, got, ok, want, wantOK)
	}
}

// wantWash has the grams that went away between the Batch and the success.
func wantWash(t *testing.T, call string, got impl.Batch, away int, ok bool, want impl.Batch, wantAway int, wantOK bool) {
	t.Helper()
	if got != want || away != wantAway || ok != wantOK {
		t.Errorf("%s: got %v, %d, %v, want %v, %d, %v", call, got, away, ok, want, wantAway, wantOK)
	}
}

func wantWashes(t *testing.T, call string, got []impl.Batch, dirt int, ok bool, want []impl.Batch, wantDirt int, wantOK bool) {
	t.Helper()
	if !slices.Equal(got, want) || dirt != wantDirt || ok != wantOK {
		t.Errorf("%s: got %v, %d, %v, want %v, %d, %v", call, got, dirt, ok, want, wantDirt, wantOK)
	}
}

// washBy looks for the fewest grams of dirt that are at least the part that stays, without dividing.
func washBy(b impl.Batch, water int, dirt int) (impl.Batch, int) {
	all := b.Dirt + dirt
	stays := sort.Search(all, func(n int) bool { return n*(b.Water+water) >= all*b.Water })
	return batch(b.Salt, stays, b.Water), all - stays
}

// stagesBy washes with parts that are together the washing water.
func stagesBy(b impl.Batch, water int, stages int) (impl.Batch, bool) {
	part := water / stages
	for n := range stages {
		b, _ = washBy(b, part, 0)
		water -= part
		if n == stages-1 && water > 0 {
			return impl.Batch{}, false
		}
	}
	return b, true
}

// neededBy tries all numbers of stages from the greatest one on.
func neededBy(b impl.Batch, water int, limit int) (int, bool) {
	needed, found := 0, false
	for stages := mostStages; stages >= 1; stages-- {
		if after, ok := stagesBy(b, water, stages); ok && after.Dirt <= limit {
			needed, found = stages, true
		}
	}
	return needed, found
}

// counterBy washes the last Batch, and then the others with what went away from it.
func counterBy(list []impl.Batch, water int, dirt int) ([]impl.Batch, int, bool) {
	if len(list) == 0 {
		return nil, dirt, true
	}
	last, dirt := washBy(list[len(list)-1], water, dirt)
	if dirt > water {
		return nil, 0, false
	}
	others, dirt, ok := counterBy(list[:len(list)-1], water, dirt)
	if !ok {
		return nil, 0, false
	}
	return append(others, last), dirt, true
}

func purityBy(b impl.Batch) (int, int, bool) {
	if b.Salt == 0 && b.Dirt == 0 {
		return 0, 0, false
	}
	purity := big.NewRat(int64(b.Salt)*1000, int64(b.Salt)*1000+int64(b.Dirt))
	return int(purity.Num().Int64()), int(purity.Denom().Int64()), true
}

// driedBy takes Water away in whole grams as long as they are not more than the percentage.
func driedBy(b impl.Batch, percent int) (impl.Batch, int) {
	gone := sort.Search(b.Water, func(n int) bool { return (n+1)*100 > b.Water*percent })
	return batch(b.Salt, b.Dirt, b.Water-gone), gone
}

// limitsOfDirt are limits around what is there and what stays after some washing.
func limitsOfDirt(b impl.Batch, water int) []int {
	limits := []int{0, 1, 2, greatestBatchGrams - 1, greatestBatchGrams, greatestBatchGrams + 1, math.MaxInt, b.Dirt / 2, b.Dirt / 10}
	around := []int{b.Dirt}
	for stages := 1; stages <= mostStages; stages++ {
		if after, ok := stagesBy(b, water, stages); ok {
			around = append(around, after.Dirt)
		}
	}
	for _, dirt := range around {
		limits = append(limits, max(dirt-1, 0), dirt, dirt+1)
	}
	slices.Sort(limits)
	return slices.Compact(limits)
}

// checkWash holds a wash against the rule, and the grams of dirt against what was there.
func checkWash(t *testing.T, b impl.Batch, water int, dirt int) {
	t.Helper()
	call := fmt.Sprint("AfterWash ", b, water, dirt)
	after, away, ok := impl.AfterWash(b, water, dirt)
	want, wantAway := washBy(b, water, dirt)
	wantWash(t, call, after, away, ok, want, wantAway, true)
	if after.Dirt+away != b.Dirt+dirt || after.Salt != b.Salt || after.Water != b.Water || after.Dirt < 0 || away < 0 || !impl.IsBatch(after) {
		t.Error(call, "loses or makes up something:", after, away)
	}
	if away*b.Water > (b.Dirt+dirt-away)*water {
		t.Error(call, "takes more dirt away than its part:", after, away)
	}
}

// checkStages holds washes in stages and the number of them that is needed against all numbers.
func checkStages(t *testing.T, b impl.Batch, water int) {
	t.Helper()
	for stages := 1; stages <= mostStages; stages++ {
		call := fmt.Sprint("AfterStages ", b, water, stages)
		after, ok := impl.AfterStages(b, water, stages)
		want, wantOK := stagesBy(b, water, stages)
		wantBatch(t, call, after, ok, want, wantOK)
		if wantOK {
			checkParts(t, b, water, stages, after)
		}
	}
	for _, limit := range limitsOfDirt(b, water) {
		call := fmt.Sprint("StagesNeeded ", b, water, limit)
		needed, ok := impl.StagesNeeded(b, water, limit)
		want, wantOK := neededBy(b, water, limit)
		wantInt(t, call, needed, ok, want, wantOK)
		checkFewer(t, call, b, water, limit, needed, ok)
	}
}

// checkParts adds up what goes away in single washes.
func checkParts(t *testing.T, b impl.Batch, water int, stages int, after impl.Batch) {
	t.Helper()
	single, sum := b, 0
	for range stages {
		next, away, ok := impl.AfterWash(single, water/stages, 0)
		if !ok {
			t.Error("AfterWash", single, water/stages, "failed")
		}
		single, sum = next, sum+away
	}
	if single != after || after.Dirt+sum != b.Dirt {
		t.Error("AfterStages", b, water, stages, "got", after, "but single washes", single, sum)
	}
}

// checkFewer holds the told number of stages against all smaller ones, or against all if there is none.
func checkFewer(t *testing.T, call string, b impl.Batch, water int, limit int, needed int, found bool) {
	t.Helper()
	if !found {
		needed = mostStages + 1
	}
	for stages := 1; stages < needed; stages++ {
		if after, ok := impl.AfterStages(b, water, stages); ok && after.Dirt <= limit {
			t.Error(call, "tells", needed, found, "but", stages, "leave", after)
		}
	}
	if after, ok := impl.AfterStages(b, water, needed); found && (!ok || after.Dirt > limit) {
		t.Error(call, "tells", needed, found, "which leave", after, ok)
	}
}

// checkWater holds the told grams, and one less, against what stays after such a wash.
func checkWater(t *testing.T, b impl.Batch, limit int) {
	t.Helper()
	call := fmt.Sprint("WaterNeeded ", b, limit)
	needed, ok := impl.WaterNeeded(b, limit)
	if !ok {
		after, _ := washBy(b, greatestBatchGrams, 0)
		if needed != 0 || b.Dirt <= limit || after.Dirt <= limit {
			t.Error(call, "got", needed, ok, "but the most water leaves", after)
		}
		return
	}
	if needed < 0 || needed > greatestBatchGrams || (needed == 0) != (b.Dirt <= limit) {
		t.Error(call, "got", needed, ok)
		return
	}
	if needed == 0 {
		return
	}
	if after, _, ok := impl.AfterWash(b, needed, 0); !ok || after.Dirt > limit {
		t.Error(call, "tells", needed, "which leaves", after, ok)
	}
	if after, _ := washBy(b, needed-1, 0); b.Water+needed > 1 && after.Dirt <= limit {
		t.Error(call, "tells", needed, "but one gram less leaves", after)
	}
}

// checkCounter holds washes with the same water against the rule, and the grams of dirt against what was there.
func checkCounter(t *testing.T, list []impl.Batch, water int) {
	t.Helper()
	argument, check := guardedBatches(t, list)
	call := fmt.Sprint("CounterCurrent ", list, water)
	after, dirt, ok := impl.CounterCurrent(argument, water)
	want, wantDirt, wantOK := counterBy(list, water, 0)
	wantWashes(t, call, after, dirt, ok, want, wantDirt, wantOK)
	check()
	if !ok || len(after) != len(list) {
		return
	}
	sum, left := 0, dirt
	for i, b := range list {
		sum += b.Dirt
		left += after[i].Dirt
		if after[i].Salt != b.Salt || after[i].Water != b.Water || !impl.IsBatch(after[i]) {
			t.Error(call, "changes", b, "to", after[i])
		}
	}
	if sum != left || dirt < 0 || dirt > water {
		t.Error(call, "loses or makes up dirt:", after, dirt)
	}
}

// checkBatch holds what is told of a single Batch against the rules.
func checkBatch(t *testing.T, b impl.Batch) {
	t.Helper()
	if !impl.IsBatch(b) {
		t.Error("not valid:", b)
	}
	num, den, ok := impl.PurityOf(b)
	wantNum, wantDen, wantOK := purityBy(b)
	wantTwo(t, fmt.Sprint("PurityOf ", b), num, den, ok, wantNum, wantDen, wantOK)
	for percent := range 101 {
		dried, gone, ok := impl.DryBatch(b, percent)
		want, wantGone := driedBy(b, percent)
		wantWash(t, fmt.Sprint("DryBatch ", b, percent), dried, gone, ok, want, wantGone, true)
		if dried.Water+gone != b.Water {
			t.Error("DryBatch", b, percent, "loses Water:", dried, gone)
		}
	}
}

// checkJoined joins in both orders.
func checkJoined(t *testing.T, a impl.Batch, b impl.Batch) {
	t.Helper()
	sum := batch(a.Salt+b.Salt, a.Dirt+b.Dirt, a.Water+b.Water)
	valid := sum.Salt <= greatestBatchSalt && sum.Dirt <= greatestBatchGrams && sum.Water <= greatestBatchGrams
	if !valid {
		sum = impl.Batch{}
	}
	joined, ok := impl.JoinBatches(a, b)
	wantBatch(t, fmt.Sprint("JoinBatches ", a, b), joined, ok, sum, valid)
	joined, ok = impl.JoinBatches(b, a)
	wantBatch(t, fmt.Sprint("JoinBatches ", b, a), joined, ok, sum, valid)
}

func expectNoWash(t *testing.T, b impl.Batch, water int, dirt int) {
	t.Helper()
	after, away, ok := impl.AfterWash(b, water, dirt)
	wantWash(t, fmt.Sprint("AfterWash ", b, water, dirt), after, away, ok, impl.Batch{}, 0, false)
}

func expectNoStages(t *testing.T, b impl.Batch, water int, stages int) {
	t.Helper()
	after, ok := impl.AfterStages(b, water, stages)
	wantBatch(t, fmt.Sprint("AfterStages ", b, water, stages), after, ok, impl.Batch{}, false)
}

func expectNoNeed(t *testing.T, b impl.Batch, water int, limit int) {
	t.Helper()
	stages, ok := impl.StagesNeeded(b, water, limit)
	wantInt(t, fmt.Sprint("StagesNeeded ", b, water, limit), stages, ok, 0, false)
}

func expectNoWater(t *testing.T, b impl.Batch, limit int) {
	t.Helper()
	water, ok := impl.WaterNeeded(b, limit)
	wantInt(t, fmt.Sprint("WaterNeeded ", b, limit), water, ok, 0, false)
}

func expectNoCounter(t *testing.T, list []impl.Batch, water int) {
	t.Helper()
	argument, check := guardedBatches(t, list)
	after, dirt, ok := impl.CounterCurrent(argument, water)
	wantWashes(t, fmt.Sprint("CounterCurrent ", len(list), fewBatches(list), water), after, dirt, ok, nil, 0, false)
	check()
}

func expectNoDried(t *testing.T, b impl.Batch, percent int) {
	t.Helper()
	dried, gone, ok := impl.DryBatch(b, percent)
	wantWash(t, fmt.Sprint("DryBatch ", b, percent), dried, gone, ok, impl.Batch{}, 0, false)
}

func expectNoJoined(t *testing.T, a impl.Batch, b impl.Batch) {
	t.Helper()
	joined, ok := impl.JoinBatches(a, b)
	wantBatch(t, fmt.Sprint("JoinBatches ", a, b), joined, ok, impl.Batch{}, false)
}

func TestIsBatch(t *testing.T) {
	for _, b := range handBatches {
		if !impl.IsBatch(b) {
			t.Error("a Batch:", b)
		}
	}
	for _, b := range noBatches() {
		if impl.IsBatch(b) {
			t.Error("no Batch:", b)
		}
	}
	for salt := -50; salt <= greatestBatchSalt+50; salt++ {
		if impl.IsBatch(batch(salt, 5, 5)) != (salt >= 0 && salt <= greatestBatchSalt) {
			t.Error("IsBatch with the Salt", salt)
		}
	}
	for more := -50; more <= 50; more++ {
		low, high := more >= 0, more <= 0
		if impl.IsBatch(batch(5, more, 5)) != low || impl.IsBatch(batch(5, 5, more)) != low || impl.IsBatch(batch(5, greatestBatchGrams+more, 5)) != high || impl.IsBatch(batch(5, 5, greatestBatchGrams+more)) != high {
			t.Error("IsBatch with the grams", more, "from a limit")
		}
	}
}

func TestPurityOf(t *testing.T) {
	const salt, grams = greatestBatchSalt, greatestBatchGrams
	for _, c := range []struct {
		b        impl.Batch
		num, den int
	}{
		{batch(1000, 500, 1000), 2000, 2001}, {batch(1000, 500, 0), 2000, 2001}, {batch(1000, 500, grams), 2000, 2001}, {batch(1, 1, 1), 1000, 1001}, {batch(1, 1000, 0), 1, 2}, {batch(3, 1000, 7), 3, 4}, {batch(1, 3000, 7), 1, 4}, {batch(2, 500, 7), 4, 5}, {batch(7, 13, 0), 7000, 7013}, {batch(6, 8, 0), 750, 751},
		// Without Dirt, and without Salt.
		{batch(1, 0, 0), 1, 1}, {batch(salt, 0, 0), 1, 1}, {batch(salt, 0, grams), 1, 1}, {batch(777, 0, 3), 1, 1}, {batch(0, 1, 0), 0, 1}, {batch(0, 5, 5), 0, 1}, {batch(0, grams, 0), 0, 1}, {batch(0, grams, grams), 0, 1},
		// At the limits.
		{batch(salt, grams, 0), 1, 2}, {batch(salt, grams, grams), 1, 2}, {batch(1, grams, 0), 1, 100001}, {batch(salt, 1, 0), 100000000, 100000001}, {batch(salt, 99999999, 1), 100000000, 199999999}, {batch(99999, grams, 1), 99999, 199999}, {batch(1, 99999999, 1), 1000, 100000999},
		// The sum is 0.
		{impl.Batch{}, 0, 0}, {batch(0, 0, 1), 0, 0}, {batch(0, 0, 500), 0, 0}, {batch(0, 0, grams), 0, 0},
	} {
		num, den, ok := impl.PurityOf(c.b)
		wantTwo(t, fmt.Sprint("PurityOf ", c.b), num, den, ok, c.num, c.den, c.den > 0)
	}
}

func TestAfterWash(t *testing.T) {
	const grams = greatestBatchGrams
	for _, c := range []struct {
		b           impl.Batch
		water, dirt int
		left, away  int
	}{
		{batch(1000, 500, 1000), 4000, 0, 100, 400}, {batch(1000, 500, 1000), 1000, 0, 250, 250}, {batch(1000, 500, 1000), 4000, 400, 180, 720}, {batch(1000, 500, 1000), 4000, 4000, 900, 3600}, {batch(greatestBatchSalt, 6, 1), 2, 0, 2, 4}, {batch(0, 6, 2), 1, 0, 4, 2},
		// Nothing is rounded, a little of a gram is, and nearly a whole one.
		{batch(5, 10, 5), 5, 0, 5, 5}, {batch(5, 11, 5), 5, 0, 6, 5}, {batch(5, 12, 5), 5, 0, 6, 6}, {batch(5, 99, 1), 99, 0, 1, 98}, {batch(5, 100, 1), 99, 0, 1, 99}, {batch(5, 101, 1), 99, 0, 2, 99}, {batch(5, 10, 5), 5, 1, 6, 5}, {batch(5, 10, 5), 5, 2, 6, 6},
		// A gram stays rounded up, with however much water.
		{batch(5, 1, 1), 1, 0, 1, 0}, {batch(5, 1, 1), grams, 0, 1, 0}, {batch(5, 1, 2), 1, 0, 1, 0}, {batch(5, 2, 1), 1, 0, 1, 1}, {batch(5, 2, 2), 1, 0, 2, 0}, {batch(5, 1, grams), 1, 0, 1, 0}, {batch(5, grams, grams), 1, 0, grams, 0}, {batch(5, 100, 1), grams, 0, 1, 99}, {batch(5, grams, 1), grams, 0, 1, 99999999},
		// Without Water all goes away, also more dirt than there is water.
		{batch(9, 500, 0), 4000, 0, 0, 500}, {batch(9, 500, 0), 1, 0, 0, 500}, {batch(9, 500, 0), 1, 1, 0, 501}, {batch(9, 500, 0), 500, 500, 0, 1000}, {batch(9, 0, 0), 7, 7, 0, 7}, {batch(9, 0, 0), 7, 0, 0, 0}, {batch(9, grams, 0), 1, 1, 0, grams + 1}, {batch(9, grams, 0), grams, grams, 0, 2 * grams}, {impl.Batch{}, 1, 0, 0, 0}, {impl.Batch{}, grams, grams, 0, grams}, {impl.Batch{}, 1, 1, 0, 1},
		// Without Dirt it stays clean, or becomes dirty.
		{batch(9, 0, 1000), 1000, 0, 0, 0}, {batch(9, 0, 1000), 1000, 1000, 500, 500}, {batch(9, 0, 1000), 1000, 1, 1, 0}, {batch(9, 0, 1000), 1000, 2, 1, 1}, {batch(9, 0, 1), 999, 999, 1, 998}, {batch(9, 0, grams), 1, 1, 1, 0}, {batch(9, 0, grams), grams, grams, 50000000, 50000000}, {batch(9, 0, grams), grams, 0, 0, 0},
		// At the limits.
		{batch(greatestBatchSalt, grams, grams), grams, 0, 50000000, 50000000}, {batch(greatestBatchSalt, grams, grams), grams, grams, grams, grams}, {batch(greatestBatchSalt, grams, grams), 1, 1, grams, 1}, {batch(0, grams, grams), grams, 1, 50000001, 50000000}, {batch(0, grams, grams), grams, grams - 1, grams, grams - 1}, {batch(0, grams, grams-1), 1, 0, 99999999, 1}, {batch(0, grams-1, grams), grams, grams, grams, grams - 1}, {batch(0, grams, 1), 1, 1, 50000001, 50000000},
	} {
		after, away, ok := impl.AfterWash(c.b, c.water, c.dirt)
		wantWash(t, fmt.Sprint("AfterWash ", c.b, c.water, c.dirt), after, away, ok, batch(c.b.Salt, c.left, c.b.Water), c.away, true)
	}
}

func TestWashesByHand(t *testing.T) {
	for _, b := range handBatches {
		checkBatch(t, b)
		for _, water := range washingWaters {
			for _, dirt := range []int{0, 1, water / 3, water / 2, water - 1, water} {
				checkWash(t, b, water, dirt)
			}
			checkStages(t, b, water)
			for _, limit := range limitsOfDirt(b, water) {
				checkWater(t, b, limit)
			}
			checkCounter(t, []impl.Batch{b}, water)
		}
	}
}

// TestSmallBatches has all with few grams of Dirt, Water and washing water.
func TestSmallBatches(t *testing.T) {
	for dirt := range 9 {
		for water := range 9 {
			b := batch(3, dirt, water)
			checkBatch(t, b)
			for washing := 1; washing <= 12; washing++ {
				for own := range washing + 1 {
					checkWash(t, b, washing, own)
				}
				checkStages(t, b, washing)
				checkCounter(t, []impl.Batch{b, b}, washing)
			}
		}
	}
}

func TestDrawnBatches(t *testing.T) {
	r := rand.New(rand.NewPCG(12, 35))
	for range 3000 {
		b, water := randomBatch(r), randomWater(r)
		for _, dirt := range []int{0, water, r.IntN(water + 1), r.IntN(min(water, 5) + 1)} {
			checkWash(t, b, water, dirt)
		}
		checkStages(t, b, water)
		for _, limit := range append(limitsOfDirt(b, water), r.IntN(b.Dirt+1)) {
			checkWater(t, b, limit)
		}
	}
	for range 500 {
		checkBatch(t, randomBatch(r))
	}
}

func TestAfterStages(t *testing.T) {
	const grams = greatestBatchGrams
	b := batch(1000, 500, 1000)
	for _, c := range []struct {
		b             impl.Batch
		water, stages int
		left          int
	}{
		{b, 4000, 1, 100}, {b, 4000, 2, 56}, {b, 4000, 4, 32}, {b, 4000, 5, 28}, {b, 6000, 6, 8}, {b, 6000, 3, 19}, {b, 6000, 1, 72}, {b, 6, 6, 500}, {b, 1, 1, 500}, {b, 2, 1, 500}, {b, 3, 1, 499}, {b, 3, 3, 500},
		// Nothing is rounded.
		{batch(7, 64, 1), 1, 1, 32}, {batch(7, 64, 1), 2, 2, 16}, {batch(7, 64, 1), 3, 3, 8}, {batch(7, 64, 1), 4, 4, 4}, {batch(7, 64, 1), 5, 5, 2}, {batch(7, 64, 1), 6, 6, 1}, {batch(7, 729, 10), 60, 3, 27}, {batch(7, 729, 10), 120, 6, 1},
		// A gram stays rounded up, also when one more stage follows.
		{batch(7, 32, 1), 6, 6, 1}, {batch(7, 1, 1), 6, 6, 1}, {batch(7, 1, 1), grams, 5, 1}, {batch(7, 5, 1), 2, 2, 2}, {batch(7, 5, 1), 3, 3, 1}, {batch(7, 9, 10), 6, 6, 9}, {batch(7, grams, 1), grams, 1, 1}, {batch(7, 2, 99), 4, 4, 2},
		// Without Water, without Dirt, and nothing but zeros.
		{batch(7, 500, 0), 6, 1, 0}, {batch(7, 500, 0), 6, 6, 0}, {batch(7, grams, 0), 1, 1, 0}, {batch(7, 0, 500), 6, 6, 0}, {batch(7, 0, grams), grams, 1, 0}, {impl.Batch{}, 1, 1, 0}, {impl.Batch{}, 6, 6, 0}, {impl.Batch{}, grams, 5, 0},
		// At the limits.
		{batch(greatestBatchSalt, grams, grams), grams, 1, 50000000}, {batch(greatestBatchSalt, grams, grams), grams, 2, 44444445}, {batch(0, grams, grams), 1, 1, grams}, {batch(0, grams, grams), 99999996, 6, 39656949},
	} {
		after, ok := impl.AfterStages(c.b, c.water, c.stages)
		wantBatch(t, fmt.Sprint("AfterStages ", c.b, c.water, c.stages), after, ok, batch(c.b.Salt, c.left, c.b.Water), true)
	}
	// The washing water is no multiple.
	for _, c := range [][2]int{{4000, 3}, {4000, 6}, {1, 2}, {1, 3}, {1, 6}, {5, 6}, {6, 4}, {6, 5}, {7, 2}, {7, 6}, {11, 5}, {12, 5}, {97, 2}, {97, 3}, {97, 4}, {97, 5}, {97, 6}, {10, 4}, {9, 6}, {15, 6}, {grams, 3}, {grams, 6}, {grams - 1, 2}, {grams - 1, 4}, {grams - 1, 5}, {grams - 1, 6}} {
		for _, b := range []impl.Batch{b, {}, batch(7, 500, 0), batch(7, 0, 500)} {
			expectNoStages(t, b, c[0], c[1])
		}
	}
}

func TestStagesNeeded(t *testing.T) {
	const grams = greatestBatchGrams
	b := batch(1000, 500, 1000)
	for _, c := range []struct {
		b            impl.Batch
		water, limit int
		want         int
	}{
		// Limits that are just reached, and one gram less.
		{b, 4000, 100, 1}, {b, 4000, 99, 2}, {b, 4000, 60, 2}, {b, 4000, 56, 2}, {b, 4000, 55, 4}, {b, 4000, 32, 4}, {b, 4000, 31, 5}, {b, 4000, 28, 5}, {b, 4000, 27, 0}, {b, 4000, 0, 0}, {b, 4000, 500, 1}, {b, 4000, 501, 1}, {b, 4000, grams, 1}, {b, 4000, grams + 1, 1}, {b, 4000, math.MaxInt, 1},
		{b, 6000, 8, 6}, {b, 6000, 7, 0}, {b, 6000, 19, 3}, {b, 6000, 72, 1}, {b, 6000, 71, 2},
		// Numbers of stages with which the water cannot be divided, behind and between those with which it can.
		{batch(7, 1000, 1), 10, 91, 1}, {batch(7, 1000, 1), 10, 90, 2}, {batch(7, 1000, 1), 10, 28, 2}, {batch(7, 1000, 1), 10, 27, 5}, {batch(7, 1000, 1), 10, 5, 5}, {batch(7, 1000, 1), 10, 4, 0}, {batch(7, 1000, 1), 11, 84, 1}, {batch(7, 1000, 1), 11, 83, 0}, {batch(7, 1000, 1), 9, 100, 1}, {batch(7, 1000, 1), 9, 99, 3}, {batch(7, 1000, 1), 9, 16, 3}, {batch(7, 1000, 1), 9, 15, 0},
		{batch(7, 64, 1), 1, 32, 1}, {batch(7, 64, 1), 1, 31, 0}, {batch(7, 64, 1), 6, 1, 6}, {batch(7, 64, 1), 6, 2, 6}, {batch(7, 64, 1), 6, 3, 3}, {batch(7, 64, 1), 5, 2, 5}, {batch(7, 64, 1), 5, 1, 0}, {batch(7, 64, 1), 4, 4, 4}, {batch(7, 64, 1), 4, 8, 2}, {batch(7, 64, 1), 4, 7, 4}, {batch(7, 64, 1), 4, 3, 0},
		// Rounding up lets some stages leave more than fewer do.
		{batch(7, 9, 10), 6, 6, 1}, {batch(7, 9, 10), 6, 5, 0}, {b, 3, 499, 1}, {b, 3, 498, 0}, {batch(7, 5, 1), 2, 2, 1}, {batch(7, 5, 1), 3, 1, 3},
		// A limit that no number of stages reaches: a gram stays.
		{batch(7, 1, 1), grams, 0, 0}, {batch(7, 1, 1), 60, 0, 0}, {batch(7, grams, grams), grams, 0, 0}, {batch(7, 1, 1), 60, 1, 1}, {batch(7, grams, grams), 1, grams, 1}, {batch(7, grams, grams), 1, grams - 1, 0},
		// Without Water, without Dirt, and nothing but zeros.
		{batch(7, 500, 0), 1, 0, 1}, {batch(7, 500, 0), 60, 0, 1}, {batch(7, grams, 0), grams, 0, 1}, {batch(7, grams, 0), 1, 500, 1}, {batch(7, 0, 500), 1, 0, 1}, {batch(7, 0, 500), grams, 7, 1}, {impl.Batch{}, 1, 0, 1}, {impl.Batch{}, grams, math.MaxInt, 1},
		// At the limits.
		{batch(greatestBatchSalt, grams, grams), grams, 50000000, 1}, {batch(greatestBatchSalt, grams, grams), grams, 49999999, 2}, {batch(greatestBatchSalt, grams, grams), grams, 44444445, 2}, {batch(greatestBatchSalt, grams, grams), grams, 44444444, 4}, {batch(0, grams, grams), 99999996, 39656949, 6}, {batch(0, grams, grams), 99999996, 39656948, 0},
	} {
		stages, ok := impl.StagesNeeded(c.b, c.water, c.limit)
		call := fmt.Sprint("StagesNeeded ", c.b, c.water, c.limit)
		wantInt(t, call, stages, ok, c.want, c.want > 0)
		checkFewer(t, call, c.b, c.water, c.limit, stages, ok)
	}
}

func TestWaterNeeded(t *testing.T) {
	const grams, none = greatestBatchGrams, -1
	b := batch(1000, 500, 1000)
	for _, c := range []struct {
		b     impl.Batch
		limit int
		want  int
	}{
		{b, 100, 4000}, {b, 99, 4051}, {b, 250, 1000}, {b, 251, 993}, {b, 1, 499000}, {b, 499, 3}, {batch(7, 10, 3), 3, 7}, {batch(7, 10, 3), 4, 5}, {batch(7, 3, 1), 2, 1}, {batch(7, 3, 2), 2, 1}, {batch(7, 3, 3), 2, 2},
		// There are not more already.
		{b, 500, 0}, {b, 501, 0}, {b, grams, 0}, {b, grams + 1, 0}, {b, math.MaxInt, 0}, {batch(7, 0, 500), 0, 0}, {batch(7, 0, grams), 0, 0}, {batch(7, 0, grams), 5, 0}, {impl.Batch{}, 0, 0}, {impl.Batch{}, 7, 0}, {batch(7, 1, 1), 1, 0}, {batch(7, grams, grams), grams, 0}, {batch(7, grams, 0), grams, 0}, {batch(7, 500, 0), 500, 0},
		// Without Water the least of all is enough.
		{batch(7, 500, 0), 499, 1}, {batch(7, 500, 0), 1, 1}, {batch(7, 500, 0), 0, 1}, {batch(7, 1, 0), 0, 1}, {batch(7, grams, 0), 0, 1}, {batch(7, grams, 0), grams - 1, 1},
		// With Water a gram always stays.
		{b, 0, none}, {batch(7, 1, 1), 0, none}, {batch(7, grams, 1), 0, none}, {batch(7, 1, grams), 0, none}, {batch(7, grams, grams), 0, none},
		// The most, and one more.
		{batch(7, 2, grams), 1, grams}, {batch(7, grams, grams), 50000000, grams}, {batch(7, grams, grams), 49999999, none}, {batch(7, grams, grams), 50000001, 99999997}, {batch(7, 3, grams), 1, none}, {batch(7, 3, 50000000), 1, grams}, {batch(7, 3, 50000001), 1, none}, {batch(7, 3, 49999999), 1, 99999998}, {batch(7, 100000000, 1), 1, 99999999}, {batch(7, 100000000, 2), 1, none}, {batch(7, 100000000, 2), 2, 99999998}, {batch(7, 11, 10000000), 1, grams}, {batch(7, 11, 10000001), 1, none}, {batch(7, 10000001, 10), 1, grams}, {batch(7, 10000001, 11), 1, none}, {batch(7, 20000001, 10), 2, 99999995}, {batch(7, 20000003, 10), 2, none}, {batch(7, 20000002, 10), 2, grams}, {batch(7, 5882354, 17), 1, none}, {batch(7, 66666669, 3), 2, none}, {batch(7, 66666668, 3), 2, 99999999},
		{batch(7, grams, grams), grams - 1, 2}, {batch(7, grams, 1), grams - 1, 1}, {batch(7, 2, 1), 1, 1},
	} {
		water, ok := impl.WaterNeeded(c.b, c.limit)
		wantInt(t, fmt.Sprint("WaterNeeded ", c.b, c.limit), water, ok, max(c.want, 0), c.want != none)
		checkWater(t, c.b, c.limit)
	}
}

// TestWaterTriedGramByGram has small Batches, with which little water is enough if any is.
func TestWaterTriedGramByGram(t *testing.T) {
	try := func(b impl.Batch, limit int) {
		want, wantOK := 0, b.Dirt <= limit
		for water := 1; !wantOK && water <= b.Dirt*b.Water+1; water++ {
			after, _, ok := impl.AfterWash(b, water, 0)
			if ok && after.Dirt <= limit {
				want, wantOK = water, true
			}
		}
		water, ok := impl.WaterNeeded(b, limit)
		wantInt(t, fmt.Sprint("WaterNeeded ", b, limit), water, ok, want, wantOK)
	}
	for dirt := range 16 {
		for water := range 16 {
			for limit := range dirt + 2 {
				try(batch(2, dirt, water), limit)
			}
		}
	}
	r := rand.New(rand.NewPCG(12, 12))
	for range 300 {
		b := batch(r.IntN(greatestBatchSalt+1), r.IntN(200), r.IntN(200))
		try(b, r.IntN(b.Dirt+1))
		try(b, r.IntN(3))
	}
}

func TestCounterCurrent(t *testing.T) {
	const grams = greatestBatchGrams
	b := batch(1000, 500, 1000)
	for _, c := range []struct {
		list  []impl.Batch
		water int
		left  []int
		dirt  int
	}{
		{[]impl.Batch{b}, 4000, []int{100}, 400}, {[]impl.Batch{b, b}, 4000, []int{180, 100}, 720}, {[]impl.Batch{b, b, b}, 4000, []int{244, 180, 100}, 976}, {batches(500, 1000, 0, 1000), 4000, []int{100, 0}, 400}, {batches(0, 1000, 500, 1000), 4000, []int{80, 100}, 320}, {batches(10, 5, 20, 15, 3, 0), 20, []int{5, 10, 0}, 18}, {batches(10, 5, 20, 15, 3, 0), 12, nil, 0}, {batches(10, 5, 20, 15, 3, 0), 5, nil, 0}, {batches(3, 0, 20, 15, 10, 5), 20, []int{0, 12, 2}, 19},
		// Just as much dirt as water after the first wash, and one gram more.
		{batches(100, 0), 100, []int{0}, 100}, {batches(101, 0), 100, nil, 0}, {batches(200, 100), 100, []int{100}, 100}, {batches(201, 100), 100, []int{101}, 100}, {batches(202, 100), 100, nil, 0}, {batches(0, 1000, 100, 0), 100, []int{91, 0}, 9}, {batches(0, 1000, 101, 0), 100, nil, 0}, {batches(1, 0), 1, []int{0}, 1}, {batches(2, 0), 1, nil, 0},
		// And after the second and the last one.
		{batches(50, 0, 50, 0), 100, []int{0, 0}, 100}, {batches(51, 0, 50, 0), 100, nil, 0}, {batches(50, 0, 51, 0), 100, nil, 0}, {batches(0, 1000, 50, 0, 50, 0), 100, []int{91, 0, 0}, 9}, {batches(0, 1000, 51, 0, 50, 0), 100, nil, 0}, {batches(0, 1000, 50, 0, 51, 0), 100, nil, 0}, {batches(150, 100, 100, 100, 0, 0), 100, []int{100, 50, 0}, 100}, {batches(152, 100, 100, 100, 0, 0), 100, nil, 0},
		{batches(200, 100, 100, 0), 100, nil, 0}, {batches(100, 100, 100, 0), 100, []int{100, 0}, 100}, {batches(101, 100, 100, 0), 100, []int{101, 0}, 100}, {batches(102, 100, 100, 0), 100, nil, 0}, {batches(1, 0, 0, 0, 0, 0, 1, 0), 2, []int{0, 0, 0, 0}, 2}, {batches(1, 0, 1, 0, 0, 0, 1, 0), 2, nil, 0},
		// Clean ones become dirty, and take the dirt out of the water again.
		{batches(0, 100, 0, 100, 100, 100), 100, []int{13, 25, 50}, 12}, {batches(0, grams, 1, 0), 1, []int{1, 0}, 0}, {batches(1, 0, 0, grams, 1, 0), 1, []int{0, 1, 0}, 1}, {batches(2, 0, 0, grams, 1, 0), 1, nil, 0},
		// Without Water, without Dirt, and nothing but zeros.
		{[]impl.Batch{{}}, 1, []int{0}, 0}, {make([]impl.Batch, mostWashed), 1, slices.Repeat([]int{0}, mostWashed), 0}, {make([]impl.Batch, mostWashed), grams, slices.Repeat([]int{0}, mostWashed), 0}, {sameBatches(mostWashed, batch(9, 0, grams)), grams, slices.Repeat([]int{0}, mostWashed), 0}, {sameBatches(mostWashed, batch(9, 10, 0)), 100, slices.Repeat([]int{0}, mostWashed), 100}, {sameBatches(mostWashed, batch(9, 10, 0)), 99, nil, 0}, {sameBatches(mostWashed, batch(9, 0, 10)), 1, slices.Repeat([]int{0}, mostWashed), 0},
		// One and ten at the limits.
		{[]impl.Batch{batch(greatestBatchSalt, grams, grams)}, grams, []int{50000000}, 50000000}, {[]impl.Batch{batch(greatestBatchSalt, grams, 0)}, grams, []int{0}, grams}, {[]impl.Batch{batch(greatestBatchSalt, grams, 0)}, grams - 1, nil, 0}, {batches(1, 0, grams, 0), grams, nil, 0}, {batches(0, grams, grams, 0), grams, []int{50000000, 0}, 50000000}, {[]impl.Batch{batch(0, grams, grams)}, 1, []int{grams}, 0},
		{sameBatches(mostWashed, batch(greatestBatchSalt, grams, grams)), grams, []int{99902344, 99804688, 99609375, 99218750, 98437500, 96875000, 93750000, 87500000, 75000000, 50000000}, 99902343},
	} {
		checkCounter(t, c.list, c.water)
		if c.left == nil {
			expectNoCounter(t, c.list, c.water)
			continue
		}
		want := slices.Clone(c.list)
		for i := range want {
			want[i].Dirt = c.left[i]
		}
		after, dirt, ok := impl.CounterCurrent(c.list, c.water)
		wantWashes(t, fmt.Sprint("CounterCurrent ", c.list, c.water), after, dirt, ok, want, c.dirt, true)
	}
}

// TestWashingLosesNoDirt has drawn Batches that are washed with the same water, with enough of it and with too little.
func TestWashingLosesNoDirt(t *testing.T) {
	r := rand.New(rand.NewPCG(12, 29))
	washed, failed := 0, 0
	for range 20000 {
		list, water := randomBatches(r)
		checkCounter(t, list, water)
		if _, _, ok := impl.CounterCurrent(list, water); ok {
			washed++
		} else {
			failed++
		}
	}
	if washed < 1000 || failed < 1000 {
		t.Error("the drawn Batches are too much alike:", washed, "are washed", failed, "are not")
	}
}

// TestCounterCurrentJustPossible looks for the least water, and takes one gram less.
func TestCounterCurrentJustPossible(t *testing.T) {
	r := rand.New(rand.NewPCG(12, 30))
	for range 500 {
		list, _ := randomBatches(r)
		least := 1 + sort.Search(greatestBatchGrams-1, func(n int) bool { _, _, ok := counterBy(list, n+1, 0); return ok })
		for water := max(least-3, 1); water <= min(least+3, greatestBatchGrams); water++ {
			checkCounter(t, list, water)
		}
	}
}

// TestCounterCurrentIsWashByWash holds it against single washes.
func TestCounterCurrentIsWashByWash(t *testing.T) {
	r := rand.New(rand.NewPCG(12, 31))
	for range 2000 {
		list, water := randomBatches(r)
		after, dirt, ok := impl.CounterCurrent(list, water)
		single, sum, possible := slices.Clone(list), 0, true
		for i := len(list) - 1; i >= 0 && possible; i-- {
			single[i], sum, possible = impl.AfterWash(list[i], water, sum)
			possible = possible && sum <= water
		}
		if !possible {
			single, sum = nil, 0
		}
		wantWashes(t, fmt.Sprint("CounterCurrent ", list, water), after, dirt, ok, single, sum, possible)
	}
}

func TestDryBatch(t *testing.T) {
	const grams = greatestBatchGrams
	for _, c := range []struct {
		water, percent int
		gone           int
	}{
		{1000, 50, 500}, {1000, 0, 0}, {1000, 100, 1000}, {1000, 1, 10}, {1000, 99, 990}, {grams, 0, 0}, {grams, 1, 1000000}, {grams, 99, 99000000}, {grams, 100, grams}, {grams - 1, 1, 999999}, {grams - 1, 50, 49999999}, {grams - 1, 99, 98999999}, {grams - 1, 100, grams - 1},
		// Rounded down.
		{1, 99, 0}, {1, 100, 1}, {1, 1, 0}, {3, 33, 0}, {3, 34, 1}, {3, 66, 1}, {3, 67, 2}, {199, 50, 99}, {199, 1, 1}, {200, 1, 2}, {99, 1, 0}, {100, 1, 1}, {101, 99, 99}, {7, 50, 3}, {7, 99, 6},
		// Without Water.
		{0, 0, 0}, {0, 1, 0}, {0, 50, 0}, {0, 100, 0},
	} {
		for _, b := range []impl.Batch{{}, batch(1000, 500, 0), batch(greatestBatchSalt, grams, 0)} {
			b.Water = c.water
			dried, gone, ok := impl.DryBatch(b, c.percent)
			wantWash(t, fmt.Sprint("DryBatch ", b, c.percent), dried, gone, ok, batch(b.Salt, b.Dirt, c.water-c.gone), c.gone, true)
		}
	}
}

func TestJoinBatches(t *testing.T) {
	const salt, grams = greatestBatchSalt, greatestBatchGrams
	full := batch(salt, grams, grams)
	for _, c := range []struct{ a, b, want impl.Batch }{
		{batch(1000, 500, 1000), batch(1000, 500, 1000), batch(2000, 1000, 2000)}, {batch(1, 2, 3), batch(40, 50, 60), batch(41, 52, 63)}, {impl.Batch{}, impl.Batch{}, impl.Batch{}}, {full, impl.Batch{}, full}, {batch(5, 6, 0), batch(7, 8, 0), batch(12, 14, 0)}, {batch(5, 0, 6), batch(7, 0, 8), batch(12, 0, 14)}, {batch(0, 0, 9), batch(9, 0, 0), batch(9, 0, 9)},
		// Sums that are just valid.
		{batch(salt-1, grams-1, grams-1), batch(1, 1, 1), full}, {batch(salt/2, grams/2, grams/2), batch(salt/2, grams/2, grams/2), full}, {batch(salt, 0, 0), batch(0, grams, grams), full}, {batch(40000, 99999990, 1), batch(60000, 10, 99999999), full}, {batch(salt, grams, 0), batch(0, 0, grams), full},
	} {
		joined, ok := impl.JoinBatches(c.a, c.b)
		wantBatch(t, fmt.Sprint("JoinBatches ", c.a, c.b), joined, ok, c.want, true)
		checkJoined(t, c.a, c.b)
		// One more in each of the three.
		if c.want == full {
			for _, more := range []impl.Batch{batch(c.b.Salt+1, c.b.Dirt, c.b.Water), batch(c.b.Salt, c.b.Dirt+1, c.b.Water), batch(c.b.Salt, c.b.Dirt, c.b.Water+1)} {
				expectNoJoined(t, c.a, more)
				expectNoJoined(t, more, c.a)
			}
		}
	}
	for _, c := range [][2]impl.Batch{{full, full}, {full, batch(1, 0, 0)}, {full, batch(0, 1, 0)}, {full, batch(0, 0, 1)}, {batch(salt, 0, 0), batch(1, 0, 0)}, {batch(0, grams, 0), batch(0, 1, 0)}, {batch(0, 0, grams), batch(0, 0, 1)}, {batch(50001, 1, 1), batch(50000, 1, 1)}, {batch(1, 50000000, 1), batch(1, 50000001, 1)}, {batch(1, 1, 99999999), batch(1, 1, 2)}} {
		expectNoJoined(t, c[0], c[1])
		expectNoJoined(t, c[1], c[0])
	}
	for _, a := range handBatches {
		for _, b := range handBatches {
			checkJoined(t, a, b)
		}
	}
	r := rand.New(rand.NewPCG(12, 41))
	for range 5000 {
		checkJoined(t, randomBatch(r), randomBatch(r))
	}
}

func TestNoBatches(t *testing.T) {
	for _, b := range noBatches() {
		num, den, ok := impl.PurityOf(b)
		wantTwo(t, fmt.Sprint("PurityOf ", b), num, den, ok, 0, 0, false)
		for _, water := range []int{1, 12, 4000, 99999960, greatestBatchGrams} {
			for _, dirt := range []int{0, 1, water} {
				expectNoWash(t, b, water, dirt)
			}
			for stages := range mostStages + 2 {
				expectNoStages(t, b, water, stages)
			}
			for _, limit := range []int{0, 1, 500, greatestBatchGrams, math.MaxInt} {
				expectNoNeed(t, b, water, limit)
				expectNoWater(t, b, limit)
			}
			for n := range mostWashed {
				expectNoCounter(t, slices.Concat(sameBatches(n, batch(5, 0, 0)), []impl.Batch{b}, sameBatches(mostWashed-1-n, batch(5, 0, 0))), water)
			}
			expectNoCounter(t, []impl.Batch{b}, water)
			expectNoCounter(t, []impl.Batch{b, b}, water)
		}
		for _, percent := range []int{0, 1, 50, 99, 100} {
			expectNoDried(t, b, percent)
		}
		for _, other := range handBatches {
			expectNoJoined(t, b, other)
			expectNoJoined(t, other, b)
		}
	}
}

// TestJoinedOfNoBatches has sums that would be valid, some of them only because they wrap around.
func TestJoinedOfNoBatches(t *testing.T) {
	for _, numbers := range [][2]int{{-1, 1}, {-5, 10}, {-1, 100001}, {math.MinInt, math.MinInt}, {math.MaxInt, math.MinInt}, {math.MaxInt, math.MinInt + 2}, {math.MinInt, math.MinInt + 500}, {1 << 62, -1 << 62}, {-greatestBatchGrams, greatestBatchGrams}, {-50, 200}} {
		low, high := numbers[0], numbers[1]
		for _, pair := range [][2]impl.Batch{{batch(low, 5, 5), batch(high, 5, 5)}, {batch(5, low, 5), batch(5, high, 5)}, {batch(5, 5, low), batch(5, 5, high)}, {batch(low, low, low), batch(high, high, high)}} {
			expectNoJoined(t, pair[0], pair[1])
			expectNoJoined(t, pair[1], pair[0])
		}
	}
	bad := noBatches()
	for i := range bad {
		expectNoJoined(t, bad[i], bad[len(bad)-1-i])
		expectNoJoined(t, bad[i], bad[i])
	}
}

func TestWashingWithWrongNumbers(t *testing.T) {
	for _, b := range handBatches {
		for _, water := range badWashingWaters {
			for _, dirt := range []int{0, 1, -1, water, water - 1, greatestBatchGrams} {
				expectNoWash(t, b, water, dirt)
			}
			for stages := range mostStages + 2 {
				expectNoStages(t, b, water, stages)
			}
			for _, limit := range []int{0, 1, b.Dirt, greatestBatchGrams, math.MaxInt} {
				expectNoNeed(t, b, water, limit)
			}
			expectNoCounter(t, []impl.Batch{b}, water)
			expectNoCounter(t, sameBatches(mostWashed, b), water)
		}
		for _, water := range []int{1, 2, 12, 840, 2520, 4000, 99999480, greatestBatchGrams} {
			for _, dirt := range []int{-1, -2, -water, water + 1, water + 2, 2 * water, greatestBatchGrams + 1, 1 << 32, 1 << 60, 1 << 62, math.MaxInt, math.MaxInt - 1, math.MinInt, math.MinInt + 1} {
				if dirt < 0 || dirt > water {
					expectNoWash(t, b, water, dirt)
				}
			}
			for _, stages := range badStages {
				expectNoStages(t, b, water, stages)
			}
			for _, limit := range badLimits {
				expectNoNeed(t, b, water, limit)
				expectNoWater(t, b, limit)
			}
		}
		for _, percent := range badPercents {
			expectNoDried(t, b, percent)
		}
	}
}

func TestCounterCurrentOfWrongLists(t *testing.T) {
	for _, water := range []int{0, 1, 100, greatestBatchGrams} {
		expectNoCounter(t, nil, water)
		expectNoCounter(t, []impl.Batch{}, water)
		for _, n := range []int{mostWashed + 1, mostWashed + 2, 20, 100, 1000} {
			for _, b := range []impl.Batch{{}, batch(5, 0, 0), batch(5, 0, 9), batch(5, 1, 1)} {
				expectNoCounter(t, sameBatches(n, b), water)
			}
		}
	}
	for n := 1; n <= mostWashed; n++ {
		checkCounter(t, sameBatches(n, batch(5, 7, 9)), 1000)
	}
}

// TestWashingResultsAreApart writes into the results, also behind their ends, and then into the arguments.
func TestWashingResultsAreApart(t *testing.T) {
	r := rand.New(rand.NewPCG(12, 51))
	for range 2000 {
		list, water := randomBatches(r)
		argument, check := guardedBatches(t, list)
		call := fmt.Sprint("CounterCurrent ", list, water)
		want, wantDirt, wantOK := counterBy(list, water, 0)
		for range 2 {
			after, _, _ := impl.CounterCurrent(argument, water)
			other, dirt, ok := impl.CounterCurrent(argument, water)
			check()
			for i := range after[:cap(after)] {
				after[:cap(after)][i] = batch(-7, -7, -7)
			}
			check()
			wantWashes(t, call+" after another result was written into", other, dirt, ok, want, wantDirt, wantOK)
			clear(argument)
			wantWashes(t, call+" after its argument was written into", other, dirt, ok, want, wantDirt, wantOK)
			copy(argument, list)
		}
	}
}
