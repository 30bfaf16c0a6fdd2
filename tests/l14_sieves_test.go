package tests

import (
	"fmt"
	"math"
	"math/rand/v2"
	"slices"
	"strings"
	"testing"

	"loop.example/g01019/impl"
)

const (
	mostSieves    = 5
	widestOpening = 200
	mostGrains    = 20
	greatestGrain = 500
	mostParted    = 8
)

// badOpenings are no openings of a sieve.
var badOpenings = []int{0, -1, -2, -200, widestOpening + 1, widestOpening + 2, 256, greatestGrain, 1 << 32, 1<<32 + 1, 1 << 60, math.MaxInt, math.MaxInt - 1, math.MinInt, math.MinInt + 1}

// badGrains are neither sizes of a grain nor sizes of which greater ones are broken.
var badGrains = []int{0, -1, -2, -500, greatestGrain + 1, greatestGrain + 2, 512, 1000, 1 << 32, 1<<32 + 1, 1 << 60, math.MaxInt, math.MaxInt - 1, math.MinInt, math.MinInt + 1}

// badShares are no percent of the grains; with some of them products wrap around.
var badShares = append([]int{0}, badPercents...)

func grainsOf(sizes ...int) impl.Sample { return impl.Sample{Sizes: sizes} }

func sameGrains(n int, size int) impl.Sample { return grainsOf(slices.Repeat([]int{size}, n)...) }

// grainsIn returns a Sample with some grains in each fraction, just as large as the openings and one tenth smaller.
func grainsIn(set []int, fractions ...int) impl.Sample {
	sizes := slices.Repeat([]int{set[len(set)-1] - 1}, fractions[len(set)])
	for i := len(set) - 1; i >= 0; i-- {
		sizes = append(sizes, slices.Repeat([]int{set[i]}, fractions[i])...)
	}
	return grainsOf(sizes...)
}

// handSets are sets with all that the chapter names.
var handSets = [][]int{
	{40, 20},
	// One sieve, and the most.
	{1}, {2}, {100}, {199}, {200}, {200, 150, 100, 50, 1}, {5, 4, 3, 2, 1}, {200, 199, 198, 197, 196}, {50, 40, 30, 20, 10}, {160, 80, 40, 20, 10},
	// Openings that follow each other by one, and both ends.
	{2, 1}, {200, 199}, {200, 1}, {21, 20}, {41, 40, 39}, {199, 2}, {103, 102, 101, 100}, {60, 30, 10}, {100, 50, 25, 12},
}

// handSamples are Samples with all that the chapter names.
var handSamples = []impl.Sample{
	grainsOf(10, 20, 39, 40, 80),
	// One grain, and the most.
	grainsOf(1), grainsOf(2), grainsOf(20), grainsOf(199), grainsOf(200), grainsOf(201), grainsOf(499), grainsOf(500), sameGrains(20, 1), sameGrains(20, 500), sameGrains(20, 40), sameGrains(19, 200), grainsOf(upTo(20)...), grainsOf(1, 1, 2, 3, 5, 8, 13, 21, 34, 55, 89, 144, 199, 200, 200, 201, 233, 377, 499, 500),
	// Equal sizes, and an even and an odd number of grains.
	grainsOf(7, 7), grainsOf(1, 500), grainsOf(20, 20, 40), grainsOf(19, 20, 21, 39, 40, 41), grainsOf(40, 40, 40, 40, 41), grainsOf(1, 2, 200), grainsOf(199, 200, 201), grainsOf(98, 99, 100, 101, 102, 103), sameGrains(10, 500), sameGrains(11, 499), grainsOf(3, 3, 3, 500),
}

// randomSet draws openings near to each other or from everywhere.
func randomSet(r *rand.Rand) []int {
	n := 1 + r.IntN(mostSieves)
	width := []int{5, 12, 60, widestOpening}[r.IntN(4)]
	start := 1 + r.IntN(widestOpening+1-width)
	set := []int{}
	for _, i := range r.Perm(width)[:n] {
		set = append(set, start+i)
	}
	slices.Sort(set)
	slices.Reverse(set)
	return set
}

// randomGrains draws n grains, many of which are just as large as an opening of a set or nearly so.
func randomGrains(r *rand.Rand, n int, set []int) impl.Sample {
	sizes := []int{}
	for range n {
		size := set[r.IntN(len(set))] + r.IntN(3) - 1
		switch r.IntN(5) {
		case 0:
			size = 1 + r.IntN(greatestGrain)
		case 1:
			size = 1 + r.IntN(widestOpening)
		}
		sizes = append(sizes, max(size, 1))
	}
	slices.Sort(sizes)
	return grainsOf(sizes...)
}

func goodSets() [][]int {
	sets := slices.Clone(handSets)
	r := rand.New(rand.NewPCG(14, 1))
	for range 200 {
		sets = append(sets, randomSet(r))
	}
	return sets
}

func goodSamples() []impl.Sample {
	list := slices.Clone(handSamples)
	r := rand.New(rand.NewPCG(14, 2))
	for range 200 {
		list = append(list, randomGrains(r, 1+r.IntN(mostGrains), randomSet(r)))
	}
	return list
}

// badSets are lists that are no set of sieves.
func badSets() [][]int {
	sets := [][]int{
		nil, {}, {6, 5, 4, 3, 2, 1}, {200, 100, 50, 25, 12, 6}, {7, 6, 5, 4, 3, 2, 1}, {200, 199, 198, 197, 196, 195}, slices.Repeat([]int{9}, 5), slices.Repeat([]int{9}, 1000),
		// Openings that do not descend.
		{20, 20}, {1, 1}, {200, 200}, {20, 40}, {1, 2}, {199, 200}, {40, 20, 20}, {40, 40, 20}, {40, 20, 30}, {20, 40, 10}, {1, 2, 3, 4, 5}, {50, 40, 30, 20, 20}, {50, 50, 30, 20, 10}, {50, 40, 40, 20, 10}, {50, 40, 30, 10, 20},
	}
	for _, bad := range badOpenings {
		sets = append(sets, []int{bad}, []int{bad, 20}, []int{40, bad}, []int{40, bad, 20}, []int{50, 40, 30, 20, bad}, []int{bad, 40, 30, 20, 10}, []int{bad, bad})
	}
	return sets
}

// badSamples are Samples that are not valid.
func badSamples() []impl.Sample {
	list := []impl.Sample{
		{}, grainsOf([]int{}...), sameGrains(21, 1), sameGrains(21, 500), sameGrains(22, 40), sameGrains(1000, 7), grainsOf(upTo(21)...),
		// Sizes that do not ascend.
		grainsOf(2, 1), grainsOf(500, 499), grainsOf(500, 1), grainsOf(10, 20, 19), grainsOf(20, 10, 30), grainsOf(10, 30, 20, 40), grainsOf(5, 5, 4), withGrain(sameGrains(19, 40), 39), grainsOf(append([]int{2}, upTo(19)...)...),
	}
	for _, bad := range badGrains {
		list = append(list, grainsOf(bad), grainsOf(bad, 20), grainsOf(20, bad), grainsOf(10, bad, 40), withGrain(sameGrains(19, 40), bad), grainsOf(append([]int{bad}, upTo(19)...)...), grainsOf(bad, bad))
	}
	return list
}

// withGrain returns a Sample with one more size behind the others.
func withGrain(s impl.Sample, size int) impl.Sample {
	return grainsOf(append(slices.Clone(s.Sizes), size)...)
}

// guardedNumbers returns numbers as the start of a longer list, whose next one may be valid too, and what checks that neither changed.
func guardedNumbers(t *testing.T, numbers []int, next int) ([]int, func()) {
	backing := append(slices.Clone(numbers), next, math.MinInt, math.MaxInt)
	before := slices.Clone(backing)
	return backing[:len(numbers)], func() {
		t.Helper()
		if !slices.Equal(backing, before) {
			t.Errorf("%v was changed to %v", before, backing)
		}
	}
}

func guardedSet(t *testing.T, set []int) ([]int, func()) { return guardedNumbers(t, set, 1) }

func guardedSample(t *testing.T, s impl.Sample) (impl.Sample, func()) {
	sizes, check := guardedNumbers(t, s.Sizes, greatestGrain)
	return grainsOf(sizes...), check
}

// guardedSamples returns the list as the start of a longer one, with all Sizes one behind the other in one array.
func guardedSamples(t *testing.T, list []impl.Sample) ([]impl.Sample, func()) {
	sizes := []int{}
	for _, s := range list {
		sizes = append(sizes, s.Sizes...)
	}
	sizes = append(sizes, greatestGrain, math.MinInt)
	before, backing := slices.Clone(sizes), []impl.Sample{}
	start := 0
	for _, s := range list {
		end := start + len(s.Sizes)
		backing = append(backing, grainsOf(sizes[start:end]...))
		start = end
	}
	backing = append(backing, grainsOf(1, 500), impl.Sample{})
	return backing[:len(list)], func() {
		t.Helper()
		same := slices.EqualFunc(backing[:len(list)], list, sameSample)
		if !same || !sameSample(backing[len(list)], grainsOf(1, 500)) || backing[len(list)+1].Sizes != nil || !slices.Equal(sizes, before) {
			t.Errorf("%v was changed to %v, %v to %v", list, backing, before, sizes)
		}
	}
}

func sameSample(a impl.Sample, b impl.Sample) bool { return slices.Equal(a.Sizes, b.Sizes) }

// fewGrains returns the start of the Sizes, which may be many, for messages.
func fewGrains(s impl.Sample) []int { return s.Sizes[:min(len(s.Sizes), 22)] }

// fewSamples does the same for lists.
func fewSamples(list []impl.Sample) []impl.Sample { return list[:min(len(list), 10)] }

func wantSample(t *testing.T, call string, got impl.Sample, ok bool, want impl.Sample, wantOK bool) {
	t.Helper()
	if !sameSample(got, want) || ok != wantOK {
		t.Errorf("%s: got %v, %v, want %v, %v", call, got, ok, want, wantOK)
	}
}

// countFrom returns how many grains are as large as an opening or larger.
func countFrom(opening int, sizes []int) int {
	n := 0
	for _, size := range sizes {
		if size >= opening {
			n++
		}
	}
	return n
}

// fractionsBy counts what does not pass each sieve, without what did not pass the one above it.
func fractionsBy(set []int, s impl.Sample) []int {
	fractions := []int{}
	above := 0
	for _, opening := range set {
		n := countFrom(opening, s.Sizes)
		fractions = append(fractions, n-above)
		above = n
	}
	return append(fractions, len(s.Sizes)-above)
}

// gradeBy has the rule in fifths of the grains.
func gradeBy(set []int, s impl.Sample) int {
	n := len(s.Sizes)
	second := set[0]
	if len(set) > 1 {
		second = set[1]
	}
	if 5*countFrom(set[0], s.Sizes) >= 3*n {
		return 1
	}
	if 5*countFrom(second, s.Sizes) >= 3*n {
		return 2
	}
	if 5*countFrom(set[len(set)-1], s.Sizes) >= 4*n {
		return 3
	}
	return 4
}

// medianBy takes the smallest and the greatest grain away as long as there are more than two.
func medianBy(s impl.Sample) int {
	sizes := s.Sizes
	for len(sizes) > 2 {
		sizes = sizes[1 : len(sizes)-1]
	}
	return sizes[0]
}

// sieveBy tries all openings from the narrowest one on.
func sieveBy(s impl.Sample, percent int) int {
	widest := 0
	for opening := 1; opening <= widestOpening; opening++ {
		if 100*countFrom(opening, s.Sizes) >= percent*len(s.Sizes) {
			widest = opening
		}
	}
	return widest
}

// box tells how many grains of each size there are.
type box [greatestGrain + 1]int

// sample returns the Sample with the grains of a box, if there are not too many.
func (b *box) sample() (impl.Sample, bool) {
	sizes := []int{}
	for size, n := range b {
		sizes = append(sizes, slices.Repeat([]int{size}, n)...)
	}
	if len(sizes) > mostGrains {
		return impl.Sample{}, false
	}
	return grainsOf(sizes...), true
}

func joinedBy14(a impl.Sample, b impl.Sample) (impl.Sample, bool) {
	all := box{}
	for _, size := range slices.Concat(a.Sizes, b.Sizes) {
		all[size]++
	}
	return all.sample()
}

// brokenBy puts the smaller half of each broken grain into a box, and what is left of it.
func brokenBy(s impl.Sample, limit int) (impl.Sample, bool) {
	all := box{}
	for _, size := range s.Sizes {
		if size > limit {
			half := size >> 1
			all[half]++
			size -= half
		}
		all[size]++
	}
	return all.sample()
}

func textBy(set []int, s impl.Sample) string {
	fractions := strings.Trim(fmt.Sprint(fractionsBy(set, s)), "[]")
	return fmt.Sprintf("%s grade %d", strings.ReplaceAll(fractions, " ", "/"), gradeBy(set, s))
}

// partsBy reports whether a choice of a set's sieves parts all pairs that the whole set parts.
func partsBy(set []int, choice []int, list []impl.Sample) bool {
	chosen := []int{}
	for _, i := range choice {
		chosen = append(chosen, set[i])
	}
	for i, a := range list {
		for _, b := range list[i+1:] {
			apart := !slices.Equal(fractionsBy(set, a), fractionsBy(set, b))
			if apart && slices.Equal(fractionsBy(chosen, a), fractionsBy(chosen, b)) {
				return false
			}
		}
	}
	return true
}

// choicesOf returns all choices of some of n sieves in lexicographical order.
func choicesOf(n int) [][]int {
	choices := [][]int{}
	var extend func(choice []int, from int)
	extend = func(choice []int, from int) {
		for i := from; i < n; i++ {
			longer := append(slices.Clone(choice), i)
			choices = append(choices, longer)
			extend(longer, i+1)
		}
	}
	extend(nil, 0)
	return choices
}

// fewestBy tries all choices one after the other.
func fewestBy(set []int, list []impl.Sample) []int {
	fewest := upToIndex(len(set))
	for _, choice := range choicesOf(len(set)) {
		if len(choice) < len(fewest) && partsBy(set, choice, list) {
			fewest = choice
		}
	}
	return fewest
}

// checkSieved holds all that is asked for a set and a Sample against the rules.
func checkSieved(t *testing.T, set []int, s impl.Sample) {
	t.Helper()
	openings, checkSet := guardedSet(t, set)
	argument, checkSample := guardedSample(t, s)
	call := fmt.Sprint(set, s)
	want := fractionsBy(set, s)
	got, ok := impl.Fractions(openings, argument)
	wantInts(t, "Fractions "+call, got, ok, want, true)
	all := 0
	for _, n := range got {
		all += n
	}
	if all != len(s.Sizes) || len(got) != len(set)+1 {
		t.Error("Fractions", call, "got", got)
	}
	grade, ok := impl.GradeOf(openings, argument)
	wantInt(t, "GradeOf "+call, grade, ok, gradeBy(set, s), true)
	text, ok := impl.SampleText(openings, argument)
	wantString(t, "SampleText "+call, text, ok, textBy(set, s), true)
	checkWithout(t, openings, argument, want)
	checkSet()
	checkSample()
}

// checkWithout: without a sieve its grains stay on the next one or fall to the ground.
func checkWithout(t *testing.T, set []int, s impl.Sample, fractions []int) {
	t.Helper()
	for k := range set {
		got, ok := impl.WithoutSieve(set, s, k)
		call := fmt.Sprint("WithoutSieve ", set, s, k)
		if len(set) == 1 {
			wantInts(t, call, got, ok, nil, false)
			continue
		}
		want := slices.Delete(slices.Clone(fractions), k, k+1)
		want[k] += fractions[k]
		wantInts(t, call, got, ok, want, true)
		others := slices.Delete(slices.Clone(set), k, k+1)
		wantInts(t, call, got, ok, fractionsBy(others, s), true)
	}
	for _, k := range []int{-1, len(set)} {
		got, ok := impl.WithoutSieve(set, s, k)
		wantInts(t, fmt.Sprint("WithoutSieve ", set, s, k), got, ok, nil, false)
	}
}

// checkGrains holds all that is asked for a Sample alone against the rules.
func checkGrains(t *testing.T, s impl.Sample) {
	t.Helper()
	argument, check := guardedSample(t, s)
	median, ok := impl.MedianSize(argument)
	wantInt(t, fmt.Sprint("MedianSize ", s), median, ok, medianBy(s), true)
	for percent := 1; percent <= 100; percent++ {
		checkOpening(t, argument, percent)
	}
	for _, size := range append([]int{1, 2, 249, 250, 251, 499, 500}, s.Sizes...) {
		for _, limit := range []int{size - 1, size, size + 1, (size + 1) / 2} {
			if limit >= 1 && limit <= greatestGrain {
				checkBroken(t, argument, limit)
			}
		}
	}
	check()
}

// checkOpening: on the opening of SieveFor enough grains stay, but not on a wider one.
func checkOpening(t *testing.T, s impl.Sample, percent int) {
	t.Helper()
	opening, ok := impl.SieveFor(s, percent)
	wantInt(t, fmt.Sprint("SieveFor ", s, percent), opening, ok, sieveBy(s, percent), true)
	for _, wider := range []int{0, 1, 2} {
		fractions, ok := impl.Fractions([]int{opening + wider}, s)
		if ok != (opening+wider <= widestOpening) || ok && (100*fractions[0] >= percent*len(s.Sizes)) != (wider == 0) {
			t.Error("SieveFor", s, percent, "got", opening, "but on", opening+wider, "there are", fractions, ok)
		}
	}
}

// checkBroken holds broken grains against the rule; no grain is lost or made up, as long as there are not too many.
func checkBroken(t *testing.T, s impl.Sample, limit int) {
	t.Helper()
	call := fmt.Sprint("BrokenGrains ", s, limit)
	want, wantOK := brokenBy(s, limit)
	got, ok := impl.BrokenGrains(s, limit)
	wantSample(t, call, got, ok, want, wantOK)
	if ok && !impl.IsSample(got) {
		t.Error(call, "got no Sample:", got)
	}
	if n := len(s.Sizes) + countFrom(limit+1, s.Sizes); ok != (n <= mostGrains) || ok && len(got.Sizes) != n {
		t.Error(call, "got", got, ok, "but there are", n, "grains")
	}
}

// checkJoinedGrains joins in both orders; the joined Sample has the Fractions of both on a set.
func checkJoinedGrains(t *testing.T, set []int, a impl.Sample, b impl.Sample) bool {
	t.Helper()
	first, checkFirst := guardedSample(t, a)
	second, checkSecond := guardedSample(t, b)
	want, wantOK := joinedBy14(a, b)
	got, ok := impl.JoinSamples(first, second)
	wantSample(t, fmt.Sprint("JoinSamples ", a, b), got, ok, want, wantOK)
	other, ok := impl.JoinSamples(second, first)
	wantSample(t, fmt.Sprint("JoinSamples ", b, a), other, ok, want, wantOK)
	checkFirst()
	checkSecond()
	if !ok {
		return false
	}
	both, _ := impl.Fractions(set, a)
	more, _ := impl.Fractions(set, b)
	for i, n := range more {
		both[i] += n
	}
	fractions, ok := impl.Fractions(set, got)
	wantInts(t, fmt.Sprint("Fractions ", set, " of ", a, b, " together"), fractions, ok, both, true)
	return true
}

// checkFewest holds the fewest sieves against all choices.
func checkFewest(t *testing.T, set []int, list []impl.Sample) []int {
	t.Helper()
	openings, checkSet := guardedSet(t, set)
	argument, checkList := guardedSamples(t, list)
	got, ok := impl.FewestSieves(openings, argument)
	wantInts(t, fmt.Sprint("FewestSieves ", set, list), got, ok, fewestBy(set, list), true)
	checkSet()
	checkList()
	return got
}

func expectNoSieved(t *testing.T, set []int, s impl.Sample, indices ...int) {
	t.Helper()
	openings, checkSet := guardedSet(t, set)
	argument, checkSample := guardedSample(t, s)
	call := fmt.Sprint(len(set), set[:min(len(set), 7)], len(s.Sizes), fewGrains(s))
	fractions, ok := impl.Fractions(openings, argument)
	wantInts(t, "Fractions "+call, fractions, ok, nil, false)
	grade, ok := impl.GradeOf(openings, argument)
	wantInt(t, "GradeOf "+call, grade, ok, 0, false)
	text, ok := impl.SampleText(openings, argument)
	wantString(t, "SampleText "+call, text, ok, "", false)
	for _, k := range indices {
		expectNoWithout(t, openings, argument, k)
	}
	checkSet()
	checkSample()
}

func expectNoWithout(t *testing.T, set []int, s impl.Sample, k int) {
	t.Helper()
	got, ok := impl.WithoutSieve(set, s, k)
	wantInts(t, fmt.Sprint("WithoutSieve ", len(set), set[:min(len(set), 7)], len(s.Sizes), fewGrains(s), k), got, ok, nil, false)
}

func expectNoFewest(t *testing.T, set []int, list []impl.Sample) {
	t.Helper()
	openings, checkSet := guardedSet(t, set)
	argument, checkList := guardedSamples(t, list)
	got, ok := impl.FewestSieves(openings, argument)
	wantInts(t, fmt.Sprint("FewestSieves ", len(set), set[:min(len(set), 7)], len(list), fewSamples(list)), got, ok, nil, false)
	checkSet()
	checkList()
}

func expectNoOpening(t *testing.T, s impl.Sample, percent int) {
	t.Helper()
	argument, check := guardedSample(t, s)
	got, ok := impl.SieveFor(argument, percent)
	wantInt(t, fmt.Sprint("SieveFor ", len(s.Sizes), fewGrains(s), percent), got, ok, 0, false)
	check()
}

func expectNoBroken(t *testing.T, s impl.Sample, limit int) {
	t.Helper()
	argument, check := guardedSample(t, s)
	got, ok := impl.BrokenGrains(argument, limit)
	wantSample(t, fmt.Sprint("BrokenGrains ", len(s.Sizes), fewGrains(s), limit), got, ok, impl.Sample{}, false)
	check()
}

func expectNoJoinedGrains(t *testing.T, a impl.Sample, b impl.Sample) {
	t.Helper()
	first, checkFirst := guardedSample(t, a)
	second, checkSecond := guardedSample(t, b)
	got, ok := impl.JoinSamples(first, second)
	wantSample(t, fmt.Sprint("JoinSamples ", len(a.Sizes), fewGrains(a), len(b.Sizes), fewGrains(b)), got, ok, impl.Sample{}, false)
	checkFirst()
	checkSecond()
}

func TestIsSet(t *testing.T) {
	for _, set := range goodSets() {
		argument, check := guardedSet(t, set)
		if !impl.IsSet(argument) {
			t.Error("a set:", set)
		}
		check()
	}
	for _, set := range badSets() {
		argument, check := guardedSet(t, set)
		if impl.IsSet(argument) {
			t.Error("no set:", len(set), set[:min(len(set), 10)])
		}
		check()
	}
	for opening := -300; opening <= 600; opening++ {
		if impl.IsSet([]int{opening}) != (opening >= 1 && opening <= widestOpening) {
			t.Error("IsSet with the opening", opening)
		}
	}
}

func TestIsSample(t *testing.T) {
	for _, s := range goodSamples() {
		argument, check := guardedSample(t, s)
		if !impl.IsSample(argument) {
			t.Error("a Sample:", s)
		}
		check()
	}
	for _, s := range badSamples() {
		argument, check := guardedSample(t, s)
		if impl.IsSample(argument) {
			t.Error("no Sample:", len(s.Sizes), fewGrains(s))
		}
		check()
	}
	for n := range 50 {
		if impl.IsSample(sameGrains(n, 40)) != (n >= 1 && n <= mostGrains) {
			t.Error("IsSample with", n, "grains")
		}
	}
	for size := -300; size <= 1200; size++ {
		if impl.IsSample(grainsOf(size)) != (size >= 1 && size <= greatestGrain) {
			t.Error("IsSample with a grain of", size)
		}
	}
}

// TestSmallSetsAndSamples has all lists of up to three numbers near each of the limits.
func TestSmallSetsAndSamples(t *testing.T) {
	for _, start := range []int{-1, 90, widestOpening - 3, greatestGrain - 3} {
		for code := range 6 * 6 * 6 {
			three := []int{start + code%6, start + code/6%6, start + code/36}
			for n := 1; n <= 3; n++ {
				list := three[:n]
				valid := func(greatest int) bool { return slices.Min(list) >= 1 && slices.Max(list) <= greatest }
				falls := n < 2 || list[0] > list[1] && (n < 3 || list[1] > list[2])
				if impl.IsSet(list) != (falls && valid(widestOpening)) {
					t.Error("IsSet", list, "got", impl.IsSet(list))
				}
				s := grainsOf(list...)
				if impl.IsSample(s) != (slices.IsSorted(list) && valid(greatestGrain)) {
					t.Error("IsSample", list, "got", impl.IsSample(s))
				}
			}
		}
	}
}

func TestFractions(t *testing.T) {
	two := []int{40, 20}
	for _, c := range []struct {
		set  []int
		s    impl.Sample
		want []int
	}{
		{two, grainsOf(10, 20, 39, 40, 80), []int{2, 2, 1}},
		// Just as large as an opening, and one tenth smaller and larger.
		{two, grainsOf(40), []int{1, 0, 0}}, {two, grainsOf(39), []int{0, 1, 0}}, {two, grainsOf(41), []int{1, 0, 0}}, {two, grainsOf(20), []int{0, 1, 0}}, {two, grainsOf(19), []int{0, 0, 1}}, {two, grainsOf(21), []int{0, 1, 0}}, {two, grainsOf(19, 20, 21, 39, 40, 41), []int{2, 3, 1}},
		// One sieve, and the ends of the openings and of the sizes.
		{[]int{1}, grainsOf(1), []int{1, 0}}, {[]int{1}, grainsOf(500), []int{1, 0}}, {[]int{2}, grainsOf(1), []int{0, 1}}, {[]int{2}, grainsOf(1, 2), []int{1, 1}}, {[]int{200}, grainsOf(199, 200, 500), []int{2, 1}}, {[]int{200}, sameGrains(20, 199), []int{0, 20}}, {[]int{200}, sameGrains(20, 500), []int{20, 0}}, {[]int{100}, grainsOf(99, 100, 101), []int{2, 1}},
		// Openings that follow each other by one.
		{[]int{41, 40, 39}, grainsOf(38, 39, 40, 41, 42), []int{2, 1, 1, 1}}, {[]int{5, 4, 3, 2, 1}, grainsOf(1, 2, 3, 4, 5, 6), []int{2, 1, 1, 1, 1, 0}}, {[]int{2, 1}, grainsOf(1, 1, 1, 2, 3), []int{2, 3, 0}},
		// All on the first sieve, and all on the ground.
		{two, sameGrains(20, 40), []int{20, 0, 0}}, {two, sameGrains(20, 500), []int{20, 0, 0}}, {two, sameGrains(20, 19), []int{0, 0, 20}}, {two, sameGrains(20, 1), []int{0, 0, 20}}, {two, sameGrains(20, 20), []int{0, 20, 0}}, {[]int{50, 40, 30, 20, 10}, grainsOf(9, 10, 20, 30, 40, 50), []int{1, 1, 1, 1, 1, 1}}, {[]int{50, 40, 30, 20, 10}, sameGrains(20, 9), []int{0, 0, 0, 0, 0, 20}}, {[]int{200, 150, 100, 50, 1}, grainsOf(1, 49, 50, 100, 149, 150, 199, 200, 500), []int{2, 2, 2, 1, 2, 0}},
	} {
		got, ok := impl.Fractions(c.set, c.s)
		wantInts(t, fmt.Sprint("Fractions ", c.set, c.s), got, ok, c.want, true)
		checkSieved(t, c.set, c.s)
	}
}

func TestGradeOf(t *testing.T) {
	one, two, three, five := []int{40}, []int{40, 20}, []int{60, 30, 10}, []int{50, 40, 30, 20, 10}
	for _, c := range []struct {
		set       []int
		fractions []int
		want      int
	}{
		{two, []int{2, 2, 1}, 2}, {three, []int{1, 0, 0, 0}, 1}, {three, []int{0, 1, 0, 0}, 2}, {three, []int{0, 0, 1, 0}, 3}, {three, []int{0, 0, 0, 1}, 4},
		// Just 60 percent on the first sieve, and one grain less.
		{three, []int{3, 0, 0, 2}, 1}, {three, []int{2, 0, 0, 3}, 4}, {three, []int{12, 0, 0, 8}, 1}, {three, []int{11, 0, 0, 9}, 4}, {three, []int{11, 1, 0, 8}, 2}, {three, []int{11, 0, 5, 4}, 3}, {three, []int{2, 0, 2, 1}, 3}, {five, []int{6, 0, 0, 0, 0, 4}, 1}, {five, []int{5, 0, 0, 0, 1, 4}, 4}, {five, []int{5, 1, 0, 0, 0, 4}, 2}, {five, []int{5, 0, 3, 0, 0, 2}, 3},
		// Just 60 percent on the first two, and one grain less.
		{three, []int{0, 3, 0, 2}, 2}, {three, []int{0, 2, 0, 3}, 4}, {three, []int{1, 2, 0, 2}, 2}, {three, []int{2, 1, 0, 2}, 2}, {three, []int{1, 1, 1, 2}, 4}, {three, []int{6, 6, 0, 8}, 2}, {three, []int{6, 5, 1, 8}, 4}, {three, []int{5, 6, 5, 4}, 3}, {two, []int{0, 12, 8}, 2}, {two, []int{0, 11, 9}, 4}, {two, []int{11, 1, 8}, 2}, {two, []int{11, 0, 9}, 4}, {five, []int{0, 0, 20, 0, 0, 0}, 3}, {five, []int{1, 10, 9, 0, 0, 0}, 3}, {five, []int{1, 11, 8, 0, 0, 0}, 2},
		// Just 20 percent on the ground, and one grain more.
		{three, []int{0, 0, 4, 1}, 3}, {three, []int{0, 0, 3, 2}, 4}, {three, []int{0, 2, 2, 1}, 3}, {three, []int{0, 2, 1, 2}, 4}, {three, []int{0, 0, 16, 4}, 3}, {three, []int{0, 0, 15, 5}, 4}, {three, []int{11, 0, 4, 5}, 4}, {five, []int{0, 0, 0, 0, 8, 2}, 3}, {five, []int{0, 0, 0, 0, 7, 3}, 4}, {five, []int{0, 0, 3, 3, 2, 2}, 3}, {five, []int{0, 0, 3, 3, 1, 3}, 4},
		// The only sieve, where the ground is not the second one.
		{one, []int{3, 2}, 1}, {one, []int{2, 3}, 4}, {one, []int{12, 8}, 1}, {one, []int{11, 9}, 4}, {one, []int{1, 0}, 1}, {one, []int{0, 1}, 4}, {one, []int{20, 0}, 1}, {one, []int{0, 20}, 4}, {one, []int{1, 1}, 4}, {one, []int{2, 1}, 1}, {[]int{200}, []int{5, 4}, 4}, {[]int{2}, []int{6, 4}, 1},
		// The shares are of all grains.
		{three, []int{7, 0, 0, 4}, 1}, {three, []int{6, 0, 0, 5}, 4}, {three, []int{0, 0, 9, 2}, 3}, {three, []int{0, 0, 8, 3}, 4}, {three, []int{0, 4, 3, 0}, 3}, {three, []int{0, 5, 2, 0}, 2}, {three, []int{4, 0, 3, 0}, 3},
	} {
		s := grainsIn(c.set, c.fractions...)
		got, ok := impl.GradeOf(c.set, s)
		wantInt(t, fmt.Sprint("GradeOf ", c.set, s), got, ok, c.want, true)
		checkSieved(t, c.set, s)
	}
}

// TestGradesOfAllFractions has all numbers of grains in the fractions of one, two and three sieves.
func TestGradesOfAllFractions(t *testing.T) {
	told := [5]int{}
	for _, set := range [][]int{{40}, {40, 20}, {60, 30, 10}} {
		for code := range 21 * 21 * 21 * 21 {
			numbers := []int{code % 21, code / 21 % 21, code / 441 % 21, code / 9261}
			fractions := numbers[:len(set)+1]
			n := 0
			for _, number := range numbers {
				n += number
			}
			if n < 1 || n > mostGrains || slices.Max(append(numbers[len(set)+1:], 0)) > 0 {
				continue
			}
			s := grainsIn(set, fractions...)
			got, ok := impl.GradeOf(set, s)
			if want := gradeBy(set, s); got != want || !ok {
				t.Error("GradeOf", set, s, "got", got, ok, "want", want)
			}
			told[got]++
		}
	}
	if told[0] > 0 || slices.Min(told[1:]) < 100 {
		t.Error("the grades were told as often as", told)
	}
}

// TestEachOpening has grains as large as each opening, and one tenth smaller and larger.
func TestEachOpening(t *testing.T) {
	for opening := 1; opening <= widestOpening; opening++ {
		sizes := []int{opening - 1, opening, opening + 1}
		ground := 1
		if opening == 1 {
			sizes, ground = sizes[1:], 0
		}
		got, ok := impl.Fractions([]int{opening}, grainsOf(sizes...))
		wantInts(t, fmt.Sprint("Fractions on ", opening, sizes), got, ok, []int{2, ground}, true)
		checkSieved(t, []int{opening}, grainsOf(sizes...))
		if opening > 1 {
			checkSieved(t, []int{opening, opening - 1}, grainsOf(sizes...))
		}
	}
}

// TestSamplesOnSets sieves the Samples on the sets, and drawn ones with grains near the openings.
func TestSamplesOnSets(t *testing.T) {
	r := rand.New(rand.NewPCG(14, 3))
	for _, set := range goodSets() {
		for _, s := range handSamples {
			checkSieved(t, set, s)
		}
		for range 20 {
			checkSieved(t, set, randomGrains(r, 1+r.IntN(mostGrains), set))
		}
	}
}

func TestMedianSize(t *testing.T) {
	for _, c := range []struct {
		s    impl.Sample
		want int
	}{
		{grainsOf(10, 20, 39, 40, 80), 39}, {grainsOf(7), 7}, {grainsOf(1), 1}, {grainsOf(500), 500}, {grainsOf(7, 8), 7}, {grainsOf(1, 500), 1}, {grainsOf(1, 2, 500), 2}, {grainsOf(1, 2, 3, 4), 2}, {grainsOf(1, 2, 2, 4), 2}, {grainsOf(5, 5, 6), 5}, {grainsOf(5, 6, 6), 6}, {grainsOf(upTo(19)...), 10}, {grainsOf(upTo(20)...), 10}, {withGrain(sameGrains(10, 3), 9), 3}, {withGrain(sameGrains(1, 3), 9), 3}, {sameGrains(20, 500), 500}, {grainsOf(slices.Concat(sameGrains(10, 3).Sizes, sameGrains(10, 4).Sizes)...), 3}, {grainsOf(slices.Concat(sameGrains(9, 3).Sizes, sameGrains(10, 4).Sizes)...), 4}, {grainsOf(slices.Concat(sameGrains(9, 3).Sizes, sameGrains(11, 4).Sizes)...), 4},
	} {
		got, ok := impl.MedianSize(c.s)
		wantInt(t, fmt.Sprint("MedianSize ", c.s), got, ok, c.want, true)
	}
}

// TestSamplesAlone takes all percent, and the sizes of the grains as those of which greater ones are broken.
func TestSamplesAlone(t *testing.T) {
	for _, s := range goodSamples() {
		checkGrains(t, s)
	}
}

func TestJoinSamples(t *testing.T) {
	two := []int{40, 20}
	for _, c := range []struct{ a, b, want impl.Sample }{
		{grainsOf(10), grainsOf(5, 10), grainsOf(5, 10, 10)}, {grainsOf(1), grainsOf(500), grainsOf(1, 500)}, {grainsOf(7), grainsOf(7), grainsOf(7, 7)}, {grainsOf(1, 3, 5), grainsOf(2, 4, 6), grainsOf(1, 2, 3, 4, 5, 6)}, {grainsOf(4, 5, 6), grainsOf(1, 2, 3), grainsOf(1, 2, 3, 4, 5, 6)}, {grainsOf(1, 500), grainsOf(2, 2), grainsOf(1, 2, 2, 500)}, {grainsOf(10, 20, 39, 40, 80), grainsOf(10, 20, 39, 40, 80), grainsOf(10, 10, 20, 20, 39, 39, 40, 40, 80, 80)},
		// Just 20 grains, and 21.
		{grainsOf(upTo(19)...), grainsOf(20), grainsOf(upTo(20)...)}, {grainsOf(1), sameGrains(19, 1), sameGrains(20, 1)}, {sameGrains(10, 500), sameGrains(10, 500), sameGrains(20, 500)}, {grainsOf(upTo(20)...), grainsOf(21), impl.Sample{}}, {grainsOf(1), sameGrains(20, 1), impl.Sample{}}, {sameGrains(10, 500), sameGrains(11, 500), impl.Sample{}}, {sameGrains(20, 3), sameGrains(20, 4), impl.Sample{}}, {sameGrains(2, 3), sameGrains(19, 4), impl.Sample{}},
	} {
		got, ok := impl.JoinSamples(c.a, c.b)
		wantSample(t, fmt.Sprint("JoinSamples ", c.a, c.b), got, ok, c.want, len(c.want.Sizes) > 0)
		checkJoinedGrains(t, two, c.a, c.b)
	}
	for n := 1; n <= mostGrains; n++ {
		for m := 1; m <= mostGrains; m++ {
			if checkJoinedGrains(t, two, sameGrains(n, 40), sameGrains(m, 19)) != (n+m <= mostGrains) {
				t.Error("JoinSamples with", n, "and", m, "grains")
			}
		}
	}
}

// TestFractionsOfJoinedSamples: joined Samples have the Fractions of both.
func TestFractionsOfJoinedSamples(t *testing.T) {
	r := rand.New(rand.NewPCG(14, 4))
	joins, fails := 0, 0
	for range 4000 {
		set := randomSet(r)
		most := []int{3, 10, 11, mostGrains}[r.IntN(4)]
		if checkJoinedGrains(t, set, randomGrains(r, 1+r.IntN(most), set), randomGrains(r, 1+r.IntN(most), set)) {
			joins++
		} else {
			fails++
		}
	}
	if joins < 300 || fails < 300 {
		t.Error("only", joins, "Samples are joined, and", fails, "are not")
	}
}

func TestSieveFor(t *testing.T) {
	five := grainsOf(10, 20, 39, 40, 80)
	for _, c := range []struct {
		s       impl.Sample
		percent int
		want    int
	}{
		// A share that is just reached, and that is missed by one grain.
		{five, 60, 39}, {five, 61, 20}, {five, 59, 39}, {five, 40, 40}, {five, 41, 39}, {five, 20, 80}, {five, 21, 40}, {five, 80, 20}, {five, 81, 10}, {grainsOf(upTo(20)...), 5, 20}, {grainsOf(upTo(20)...), 6, 19}, {grainsOf(upTo(20)...), 10, 19}, {grainsOf(upTo(20)...), 11, 18}, {grainsOf(upTo(20)...), 95, 2}, {grainsOf(upTo(20)...), 96, 1}, {grainsOf(3, 4, 5), 33, 5}, {grainsOf(3, 4, 5), 34, 4}, {grainsOf(3, 4, 5), 66, 4}, {grainsOf(3, 4, 5), 67, 3},
		// 1 and 100 percent.
		{five, 1, 80}, {five, 100, 10}, {grainsOf(1), 1, 1}, {grainsOf(1), 100, 1}, {grainsOf(7), 1, 7}, {grainsOf(7), 100, 7}, {sameGrains(20, 9), 1, 9}, {sameGrains(20, 9), 100, 9}, {grainsOf(1, 500), 50, 200}, {grainsOf(1, 500), 51, 1},
		// Grains that are greater than the widest opening.
		{grainsOf(199), 100, 199}, {grainsOf(200), 100, 200}, {grainsOf(201), 100, 200}, {grainsOf(500), 1, 200}, {grainsOf(500), 100, 200}, {sameGrains(20, 500), 100, 200}, {grainsOf(199, 500), 50, 200}, {grainsOf(199, 500), 51, 199}, {grainsOf(100, 300, 400), 66, 200}, {grainsOf(100, 300, 400), 67, 100},
	} {
		got, ok := impl.SieveFor(c.s, c.percent)
		wantInt(t, fmt.Sprint("SieveFor ", c.s, c.percent), got, ok, c.want, true)
	}
}

// TestOpeningForEverySample: all grains stay on the narrowest sieve, so that there is an opening for each valid share.
func TestOpeningForEverySample(t *testing.T) {
	for n := 1; n <= mostGrains; n++ {
		for percent := 1; percent <= 100; percent++ {
			got, ok := impl.SieveFor(sameGrains(n, 1), percent)
			wantInt(t, fmt.Sprint("SieveFor ", n, " grains of 1 ", percent), got, ok, 1, true)
		}
	}
}

func TestWithoutSieve(t *testing.T) {
	two, five := []int{40, 20}, []int{50, 40, 30, 20, 10}
	s, six := grainsOf(10, 20, 39, 40, 80), grainsOf(9, 10, 20, 30, 40, 50)
	for _, c := range []struct {
		set  []int
		s    impl.Sample
		k    int
		want []int
	}{
		{two, s, 0, []int{4, 1}}, {two, s, 1, []int{2, 3}}, {[]int{60, 30, 10}, s, 0, []int{3, 2, 0}}, {[]int{60, 30, 10}, s, 1, []int{1, 4, 0}}, {[]int{60, 30, 10}, s, 2, []int{1, 2, 2}}, {two, sameGrains(20, 500), 0, []int{20, 0}}, {two, sameGrains(20, 500), 1, []int{20, 0}}, {two, sameGrains(20, 1), 1, []int{0, 20}}, {[]int{2, 1}, grainsOf(1), 0, []int{1, 0}}, {[]int{2, 1}, grainsOf(1), 1, []int{0, 1}}, {[]int{200, 199}, grainsOf(198, 199, 200), 0, []int{2, 1}}, {[]int{200, 199}, grainsOf(198, 199, 200), 1, []int{1, 2}},
		// The first and the last index of the most sieves.
		{five, six, 0, []int{2, 1, 1, 1, 1}}, {five, six, 2, []int{1, 1, 2, 1, 1}}, {five, six, 4, []int{1, 1, 1, 1, 2}},
	} {
		got, ok := impl.WithoutSieve(c.set, c.s, c.k)
		wantInts(t, fmt.Sprint("WithoutSieve ", c.set, c.s, c.k), got, ok, c.want, true)
	}
	indices := []int{-1, -2, 5, 6, 1 << 32, 1<<32 + 1, math.MaxInt, math.MaxInt - 1, math.MinInt, math.MinInt + 1}
	for _, set := range handSets {
		for _, k := range append([]int{len(set), len(set) + 1, -len(set)}, indices...) {
			expectNoWithout(t, set, s, k)
		}
	}
	// Without the only sieve there is none.
	for opening := 1; opening <= widestOpening; opening++ {
		expectNoWithout(t, []int{opening}, s, 0)
	}
}

func TestFewestSieves(t *testing.T) {
	two, three, four, five := []int{40, 20}, []int{50, 40, 30}, []int{50, 40, 30, 20}, []int{50, 40, 30, 20, 10}
	p := []impl.Sample{grainsOf(40), grainsOf(20), grainsOf(10)}
	ends := []impl.Sample{grainsOf(50), grainsOf(40), grainsOf(30), grainsOf(20), grainsOf(10), grainsOf(9)}
	// Each pair has its own number of grains, and two sieves that part it; only the first and the last sieve together, or both others, part them all.
	crossed := []impl.Sample{grainsOf(10, 35), grainsOf(25, 45), grainsOf(10, 10, 10), grainsOf(10, 10, 35), grainsOf(10, 10, 25, 45), grainsOf(10, 10, 35, 55), grainsOf(10, 10, 10, 10, 35), grainsOf(10, 10, 10, 10, 55)}
	for _, c := range []struct {
		set  []int
		list []impl.Sample
		want []int
	}{
		{two, p, []int{0, 1}}, {two, []impl.Sample{p[0], p[2]}, []int{0}}, {two, []impl.Sample{p[1], p[2]}, []int{1}}, {two, []impl.Sample{p[0], p[1]}, []int{0}}, {two, []impl.Sample{p[2], p[1], p[0]}, []int{0, 1}}, {two, []impl.Sample{p[1], p[2], p[1], p[2]}, []int{1}},
		// No pairs to part.
		{two, nil, []int{0}}, {two, []impl.Sample{}, []int{0}}, {two, p[:1], []int{0}}, {two, p[2:], []int{0}}, {five, nil, []int{0}}, {[]int{1}, nil, []int{0}}, {five, ends[5:], []int{0}}, {five, slices.Repeat(ends[2:3], 8), []int{0}},
		// Samples whose Fractions are the same on the whole set.
		{two, []impl.Sample{grainsOf(40), grainsOf(41)}, []int{0}}, {two, []impl.Sample{grainsOf(20), grainsOf(39)}, []int{0}}, {two, []impl.Sample{grainsOf(1), grainsOf(19)}, []int{0}}, {two, []impl.Sample{grainsOf(20), grainsOf(39), grainsOf(1), grainsOf(19)}, []int{1}}, {two, []impl.Sample{grainsOf(40), grainsOf(500), grainsOf(1), grainsOf(19)}, []int{0}}, {five, []impl.Sample{grainsOf(9), grainsOf(1), grainsOf(10), grainsOf(19)}, []int{4}},
		// Different numbers of grains, which each sieve parts.
		{two, []impl.Sample{grainsOf(1), grainsOf(1, 1)}, []int{0}}, {five, []impl.Sample{grainsOf(9), grainsOf(9, 10), grainsOf(9, 20, 30)}, []int{0}}, {five, []impl.Sample{grainsOf(9, 9), grainsOf(9, 10), grainsOf(9)}, []int{4}},
		// One sieve, all of them, and the most Samples.
		{[]int{1}, p, []int{0}}, {[]int{20}, p, []int{0}}, {five, ends, []int{0, 1, 2, 3, 4}}, {five, ends[:5], []int{0, 1, 2, 3}}, {five, ends[1:], []int{1, 2, 3, 4}}, {five, append(slices.Clone(ends), grainsOf(500), grainsOf(1)), []int{0, 1, 2, 3, 4}}, {five, []impl.Sample{ends[0], ends[5]}, []int{0}}, {five, []impl.Sample{ends[3], ends[5]}, []int{3}}, {five, []impl.Sample{ends[0], ends[2], ends[5]}, []int{0, 2}}, {five, []impl.Sample{ends[1], ends[3], ends[4]}, []int{1, 3}},
		// Several choices of as few sieves.
		{three, []impl.Sample{grainsOf(60), grainsOf(35), grainsOf(20)}, []int{0, 2}}, {three, []impl.Sample{grainsOf(60), grainsOf(45), grainsOf(20)}, []int{0, 1}}, {three, []impl.Sample{grainsOf(45), grainsOf(35), grainsOf(20)}, []int{1, 2}}, {three, []impl.Sample{grainsOf(45), grainsOf(20)}, []int{1}}, {three, []impl.Sample{grainsOf(60), grainsOf(20)}, []int{0}}, {four, crossed, []int{0, 3}}, {four, crossed[:6], []int{0, 3}}, {four, crossed[2:], []int{0, 2}},
	} {
		got, ok := impl.FewestSieves(c.set, c.list)
		wantInts(t, fmt.Sprint("FewestSieves ", c.set, c.list), got, ok, c.want, true)
		checkFewest(t, c.set, c.list)
	}
}

// randomList draws at most 8 Samples, mostly with the same number of grains, some of which differ by one grain alone.
func randomList(r *rand.Rand, set []int) []impl.Sample {
	n := 1 + r.IntN([]int{1, 2, 4, mostGrains}[r.IntN(4)])
	list := []impl.Sample{}
	for i := range max(r.IntN(mostParted+1), r.IntN(mostParted+1)) {
		s := randomGrains(r, n, set)
		switch {
		case i > 0 && r.IntN(2) == 0:
			sizes := slices.Clone(list[r.IntN(i)].Sizes)
			sizes[r.IntN(len(sizes))] = max(set[r.IntN(len(set))]-r.IntN(2), 1)
			slices.Sort(sizes)
			s = grainsOf(sizes...)
		case r.IntN(10) == 0:
			s = randomGrains(r, 1+r.IntN(mostGrains), set)
		}
		list = append(list, s)
	}
	return list
}

// TestDrawnFewestSieves holds drawn Samples against all choices, tried one after the other.
func TestDrawnFewestSieves(t *testing.T) {
	r := rand.New(rand.NewPCG(14, 5))
	told := [mostSieves + 1]int{}
	for range 8000 {
		set := randomSet(r)
		told[len(checkFewest(t, set, randomList(r, set)))]++
	}
	if told[0] > 0 || slices.Min(told[1:]) < 5 {
		t.Error("as many sieves were told as often as", told)
	}
}

// TestFewestSievesForFewGrains has all Samples of one grain in some of the fractions, and all three of two grains.
func TestFewestSievesForFewGrains(t *testing.T) {
	for _, set := range [][]int{{20}, {40, 20}, {60, 30, 10}, {40, 30, 20, 10}, {50, 40, 30, 20, 10}} {
		sizes := append([]int{set[len(set)-1] - 1}, set...)
		slices.Sort(sizes)
		for choice := range 1 << len(sizes) {
			list := []impl.Sample{}
			for i, size := range sizes {
				if choice>>i&1 == 1 {
					list = append(list, grainsOf(size))
				}
			}
			checkFewest(t, set, list)
		}
		twos := []impl.Sample{}
		for i, size := range sizes {
			for _, greater := range sizes[i:] {
				twos = append(twos, grainsOf(size, greater))
			}
		}
		for i, a := range twos {
			for j, b := range twos[:i] {
				for _, c := range twos[:j] {
					checkFewest(t, set, []impl.Sample{a, b, c})
				}
			}
		}
	}
}

func TestBrokenGrains(t *testing.T) {
	five := grainsOf(10, 20, 39, 40, 80)
	for _, c := range []struct {
		s    impl.Sample
		size int
		want impl.Sample
	}{
		{five, 39, grainsOf(10, 20, 20, 20, 39, 40, 40)}, {five, 80, five}, {five, 500, five}, {five, 79, grainsOf(10, 20, 39, 40, 40, 40)}, {five, 38, grainsOf(10, 19, 20, 20, 20, 20, 40, 40)}, {five, 1, grainsOf(5, 5, 10, 10, 19, 20, 20, 20, 40, 40)},
		// Grains just as large as the size, one tenth smaller and larger, and of odd and of even sizes.
		{grainsOf(40), 40, grainsOf(40)}, {grainsOf(39), 40, grainsOf(39)}, {grainsOf(41), 40, grainsOf(20, 21)}, {grainsOf(42), 40, grainsOf(21, 21)}, {grainsOf(39, 40, 41), 40, grainsOf(20, 21, 39, 40)}, {grainsOf(3), 2, grainsOf(1, 2)}, {grainsOf(5, 7), 4, grainsOf(2, 3, 3, 4)},
		// A size of 1 and of 500, and grains that stay greater than the size.
		{grainsOf(1), 1, grainsOf(1)}, {grainsOf(2), 1, grainsOf(1, 1)}, {grainsOf(3), 1, grainsOf(1, 2)}, {grainsOf(500), 1, grainsOf(250, 250)}, {grainsOf(499), 1, grainsOf(249, 250)}, {grainsOf(500), 500, grainsOf(500)}, {grainsOf(500), 499, grainsOf(250, 250)}, {sameGrains(20, 1), 1, sameGrains(20, 1)}, {sameGrains(20, 500), 500, sameGrains(20, 500)}, {sameGrains(10, 500), 499, sameGrains(20, 250)},
		// Halves that are smaller than grains before.
		{grainsOf(30, 40), 35, grainsOf(20, 20, 30)}, {grainsOf(1, 100, 101, 200), 100, grainsOf(1, 50, 51, 100, 100, 100)},
		// Just 20 grains, and more.
		{withGrain(sameGrains(18, 5), 9), 8, grainsOf(4, 5, 5, 5, 5, 5, 5, 5, 5, 5, 5, 5, 5, 5, 5, 5, 5, 5, 5, 5)}, {withGrain(sameGrains(19, 5), 9), 8, impl.Sample{}}, {withGrain(sameGrains(19, 5), 9), 9, withGrain(sameGrains(19, 5), 9)}, {sameGrains(10, 2), 1, sameGrains(20, 1)}, {sameGrains(11, 2), 1, impl.Sample{}}, {sameGrains(20, 500), 499, impl.Sample{}}, {sameGrains(20, 2), 1, impl.Sample{}}, {withGrain(sameGrains(19, 1), 2), 1, impl.Sample{}},
	} {
		got, ok := impl.BrokenGrains(c.s, c.size)
		wantSample(t, fmt.Sprint("BrokenGrains ", c.s, c.size), got, ok, c.want, len(c.want.Sizes) > 0)
		checkBroken(t, c.s, c.size)
	}
}

// TestEachGrainBroken breaks a grain of each size.
func TestEachGrainBroken(t *testing.T) {
	for size := 1; size <= greatestGrain; size++ {
		for _, limit := range []int{1, size / 2, size - 1, size, size + 1, greatestGrain} {
			if limit < 1 || limit > greatestGrain {
				continue
			}
			checkBroken(t, grainsOf(size), limit)
			got, ok := impl.BrokenGrains(grainsOf(size), limit)
			want := grainsOf(size)
			if size > limit {
				want = grainsOf(size/2, size-size/2)
			}
			wantSample(t, fmt.Sprint("BrokenGrains ", size, limit), got, ok, want, true)
		}
	}
}

func TestSampleText(t *testing.T) {
	for _, c := range []struct {
		set  []int
		s    impl.Sample
		want string
	}{
		{[]int{40, 20}, grainsOf(10, 20, 39, 40, 80), "2/2/1 grade 2"}, {[]int{1}, grainsOf(1), "1/0 grade 1"}, {[]int{2}, grainsOf(1), "0/1 grade 4"}, {[]int{200}, sameGrains(20, 500), "20/0 grade 1"}, {[]int{200}, sameGrains(20, 199), "0/20 grade 4"}, {[]int{60, 30, 10}, grainsOf(9, 10, 30, 30, 60), "1/2/1/1 grade 2"}, {[]int{60, 30, 10}, grainsOf(9, 10, 10, 30, 60), "1/1/2/1 grade 3"}, {[]int{60, 30, 10}, grainsOf(9, 9, 10, 30, 60), "1/1/1/2 grade 4"}, {[]int{5, 4, 3, 2, 1}, grainsOf(upTo(20)...), "16/1/1/1/1/0 grade 1"}, {[]int{50, 40, 30, 20, 10}, sameGrains(12, 10), "0/0/0/0/12/0 grade 3"},
	} {
		got, ok := impl.SampleText(c.set, c.s)
		wantString(t, fmt.Sprint("SampleText ", c.set, c.s), got, ok, c.want, true)
	}
}

// TestWrongSets has each list that is no set of sieves with valid Samples.
func TestWrongSets(t *testing.T) {
	for _, set := range badSets() {
		for _, s := range []impl.Sample{grainsOf(10, 20, 39, 40, 80), grainsOf(1), sameGrains(20, 500)} {
			expectNoSieved(t, set, s, 0, 1, 2, len(set)-1, len(set), -1, math.MinInt)
		}
		expectNoFewest(t, set, nil)
		expectNoFewest(t, set, []impl.Sample{grainsOf(40), grainsOf(20), grainsOf(10)})
		expectNoFewest(t, set, slices.Repeat([]impl.Sample{grainsOf(40)}, mostParted))
	}
}

// TestWrongSamples has each Sample that is not valid with valid sets, and among valid ones.
func TestWrongSamples(t *testing.T) {
	valid := []impl.Sample{grainsOf(40), grainsOf(20), grainsOf(10), grainsOf(10, 20), grainsOf(40, 40), grainsOf(1), grainsOf(500)}
	for _, bad := range badSamples() {
		for _, set := range [][]int{{40, 20}, {1}, {200}, {200, 150, 100, 50, 1}} {
			expectNoSieved(t, set, bad, 0, 1, 2, -1)
			for i := range len(valid) + 1 {
				expectNoFewest(t, set, slices.Insert(slices.Clone(valid), i, bad))
			}
			expectNoFewest(t, set, []impl.Sample{bad})
			expectNoFewest(t, set, []impl.Sample{bad, bad})
		}
		for _, good := range []impl.Sample{grainsOf(1), grainsOf(20), sameGrains(19, 500), sameGrains(20, 40)} {
			expectNoJoinedGrains(t, bad, good)
			expectNoJoinedGrains(t, good, bad)
		}
		expectNoJoinedGrains(t, bad, bad)
		for _, percent := range append([]int{1, 50, 100}, badShares...) {
			expectNoOpening(t, bad, percent)
		}
		for _, size := range append([]int{1, 39, 500}, badGrains...) {
			expectNoBroken(t, bad, size)
		}
		argument, check := guardedSample(t, bad)
		median, ok := impl.MedianSize(argument)
		wantInt(t, fmt.Sprint("MedianSize ", len(bad.Sizes), fewGrains(bad)), median, ok, 0, false)
		check()
	}
}

// TestWrongNumbersForSamples has valid Samples with shares, sizes and numbers of Samples that are not.
func TestWrongNumbersForSamples(t *testing.T) {
	for _, s := range handSamples {
		for _, percent := range badShares {
			expectNoOpening(t, s, percent)
		}
		for _, size := range badGrains {
			expectNoBroken(t, s, size)
		}
		for _, n := range []int{mostParted + 1, mostParted + 2, 16, 1000} {
			expectNoFewest(t, []int{40, 20}, slices.Repeat([]impl.Sample{s}, n))
			expectNoFewest(t, []int{1}, slices.Repeat([]impl.Sample{s}, n))
		}
		for n := range mostParted + 1 {
			got, ok := impl.FewestSieves([]int{40, 20}, slices.Repeat([]impl.Sample{s}, n))
			wantInts(t, fmt.Sprint("FewestSieves of ", n, s), got, ok, []int{0}, true)
		}
	}
}

// expectNumbersApart writes into a result, also behind its end, and then into the arguments.
func expectNumbersApart(t *testing.T, call string, ask func() ([]int, bool), arguments ...[]int) {
	t.Helper()
	before := [][]int{}
	for _, argument := range arguments {
		before = append(before, slices.Clone(argument))
	}
	got, ok := ask()
	other, _ := ask()
	want := slices.Clone(got)
	scribble(got)
	for i, argument := range arguments {
		wantInts(t, call+" changes its argument", argument, true, before[i], true)
	}
	wantInts(t, call+" after another result was written into", other, ok, want, ok)
	for _, argument := range arguments {
		clear(argument)
	}
	wantInts(t, call+" after its arguments were written into", other, ok, want, ok)
	for i, argument := range arguments {
		copy(argument, before[i])
	}
}

// TestSieveResultsAreApart writes into the results, also behind their ends, and into the arguments.
func TestSieveResultsAreApart(t *testing.T) {
	r := rand.New(rand.NewPCG(14, 6))
	for _, whole := range goodSets() {
		set := slices.Clone(whole)
		a, b := randomGrains(r, 1+r.IntN(10), set), randomGrains(r, 1+r.IntN(10), set)
		call := fmt.Sprint(set, a, b)
		expectNumbersApart(t, "Fractions "+call, func() ([]int, bool) { return impl.Fractions(set, a) }, set, a.Sizes)
		for k := range set {
			expectNumbersApart(t, "WithoutSieve "+call, func() ([]int, bool) { return impl.WithoutSieve(set, a, k) }, set, a.Sizes)
		}
		expectNumbersApart(t, "FewestSieves "+call, func() ([]int, bool) { return impl.FewestSieves(set, []impl.Sample{a, b}) }, set, a.Sizes, b.Sizes)
		join := func(x impl.Sample, y impl.Sample) func() ([]int, bool) {
			return func() ([]int, bool) { got, ok := impl.JoinSamples(x, y); return got.Sizes, ok }
		}
		expectNumbersApart(t, "JoinSamples "+call, join(a, b), a.Sizes, b.Sizes)
		expectNumbersApart(t, "JoinSamples with itself "+call, join(a, a), a.Sizes)
		for _, size := range []int{1, set[0], greatestGrain} {
			broken := func() ([]int, bool) { got, ok := impl.BrokenGrains(a, size); return got.Sizes, ok }
			expectNumbersApart(t, "BrokenGrains "+call, broken, a.Sizes)
		}
	}
}
