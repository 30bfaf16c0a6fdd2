package tests

import (
	"fmt"
	"math"
	"math/rand/v2"
	"regexp"
	"slices"
	"strings"
	"testing"

	"loop.example/g01019/impl"
)

const (
	greatestKindGrams = 1000
	greatestKindWater = 9
)

var wordPattern = regexp.MustCompile(`\A[a-z]{1,10}\z`)

// noWords are texts that are no words.
var noWords = []string{
	"", "A", "Z", "aB", "Ba", " ", " a", "a ", "a b", "a-b", "a1", "1", "1a", "-", "_", "`", "{", "a`", "a{", "@", "[", "a\n", "\na", "\x00", "a\x00", "\x7f", "\xff", "a\xff", "ä", "aä", "é", "\u0430", "\u0101", "aaaaaaaaaaa", "zzzzzzzzzzz", "abcdefghijk", "abcdefghijK", "abcdefghi\n", "abcdefghi{",
	strings.Repeat("a", 12), strings.Repeat("z", 255), strings.Repeat("b", 257), strings.Repeat("c", 5000), "aaaaaaaaaa ",
}

// badKindWaters are no Water of a Kind.
var badKindWaters = []int{-1, -2, -9, -10, greatestKindWater + 1, greatestKindWater + 2, 100, 1 << 32, 1<<32 + 1, 1 << 60, math.MaxInt, math.MaxInt - 1, math.MinInt, math.MinInt + 1}

// badKindGrams are no Grams of a Kind.
var badKindGrams = []int{0, -1, -2, -1000, greatestKindGrams + 1, greatestKindGrams + 2, 200000, 1 << 32, 1<<32 + 1, 1 << 60, math.MaxInt, math.MaxInt - 1, math.MinInt, math.MinInt + 1}

// badKilograms are neither kilograms of Water nor of a salt.
var badKilograms = []int{-1, -2, -1000, -impl.MaxWater, impl.MaxWater + 1, impl.MaxWater + 2, 1 << 32, 1<<32 + 1, 1 << 60, math.MaxInt, math.MaxInt - 1, math.MinInt, math.MinInt + 1}

func kind(name string, water int, grams int) impl.Kind {
	return impl.Kind{Name: name, Water: water, Grams: grams}
}

func kindsOf(list ...impl.Kind) []impl.Kind { return list }

func liquor(water int, salts ...int) impl.Liquor { return impl.Liquor{Water: water, Salts: salts} }

// sameKinds returns n Kinds that have the same numbers.
func sameKinds(n int, water int, grams int) []impl.Kind {
	kinds := []impl.Kind{}
	for i := range n {
		kinds = append(kinds, kind(string(rune('a'+i)), water, grams))
	}
	return kinds
}

// handKinds are Kinds with all that the chapter names.
func handKinds() [][]impl.Kind {
	return [][]impl.Kind{
		kindsOf(kind("gyps", 0, 2), kind("halite", 0, 360)), kindsOf(kind("magnes", 9, 100)),
		kindsOf(kind("a", 0, 1)), kindsOf(kind("z", 9, 1)), kindsOf(kind("m", 0, greatestKindGrams)), kindsOf(kind("zzzzzzzzzz", 9, greatestKindGrams)), kindsOf(kind("aaaaaaaaaa", 5, 333)), kindsOf(kind("salt", 1, 2)),
		kindsOf(kind("a", 9, 1), kind("b", 0, 100)), kindsOf(kind("a", 0, 100), kind("b", 9, 1)), kindsOf(kind("a", 0, 100), kind("b", 0, 200)), kindsOf(kind("a", 0, 100), kind("c", 0, 1000)), kindsOf(kind("a", 9, 100), kind("b", 5, 360)),
		// Names of which one is the start of another, and names of all lengths.
		kindsOf(kind("a", 3, 7), kind("aa", 2, 9), kind("aaaaaaaaaa", 0, 77)), kindsOf(kind("ab", 1, 500), kind("abc", 8, 499), kind("b", 7, 501)), kindsOf(kind("abcdefghij", 4, 3), kind("abcdefghik", 4, 3)),
		sameKinds(1, 0, 1), sameKinds(2, 9, 1000), sameKinds(3, 0, 1), sameKinds(5, 1, 360), sameKinds(impl.MaxKinds, 0, 100), sameKinds(impl.MaxKinds, 9, 100), sameKinds(impl.MaxKinds, 9, 1000), sameKinds(impl.MaxKinds, 4, 1),
		kindsOf(kind("calcite", 0, 1), kind("gyps", 2, 2), kind("halite", 0, 360), kind("kainite", 4, 540), kind("magnes", 6, 710), kind("sylvite", 9, 344)),
	}
}

// randomWord returns a word with few different letters or with many.
func randomWord(r *rand.Rand) string {
	letters := []string{"ab", "abyz", "abcdefghijklmnopqrstuvwxyz"}[r.IntN(3)]
	word := []byte{}
	for range 1 + r.IntN(10) {
		word = append(word, letters[r.IntN(len(letters))])
	}
	return string(word)
}

func randomKinds(r *rand.Rand) []impl.Kind {
	names := []string{}
	for range 1 + r.IntN(impl.MaxKinds) {
		names = append(names, randomWord(r))
	}
	slices.Sort(names)
	grams := []int{3, 100, greatestKindGrams}[r.IntN(3)]
	kinds := []impl.Kind{}
	for _, name := range slices.Compact(names) {
		kinds = append(kinds, kind(name, r.IntN(greatestKindWater+1)*r.IntN(2), 1+r.IntN(grams)))
	}
	return kinds
}

// randomLiquor returns a Liquor with Salts of which there is nothing, about as much as stays dissolved, or anything.
func randomLiquor(r *rand.Rand, kinds []impl.Kind, most int) impl.Liquor {
	l := impl.Liquor{Water: r.IntN(most + 1)}
	for _, k := range kinds {
		salt := r.IntN(most + 1)
		switch r.IntN(4) {
		case 0:
			salt = 0
		case 1, 2:
			salt = k.Grams*l.Water/1000 - 2 + r.IntN(5)
		}
		l.Salts = append(l.Salts, min(max(salt, 0), impl.MaxWater))
	}
	return l
}

// liquorsOf are Liquors without Water, without Salts, and with just as much as stays dissolved, and one more and less.
func liquorsOf(kinds []impl.Kind) []impl.Liquor {
	n := len(kinds)
	list := []impl.Liquor{liquor(0, make([]int, n)...), liquor(1000, make([]int, n)...), liquor(0, slices.Repeat([]int{1}, n)...), liquor(0, slices.Repeat([]int{7}, n)...), liquor(0, slices.Repeat([]int{100}, n)...)}
	for _, water := range []int{1, 2, 9, 10, 11, 99, 100, 500, 999, 1000, 1001, 2000} {
		for _, more := range []int{-1, 0, 1, 2, 10, 100} {
			salts := []int{}
			for _, k := range kinds {
				salts = append(salts, max(k.Grams*water/1000+more, 0))
			}
			list = append(list, liquor(water, salts...))
			for i := range kinds {
				one := make([]int, n)
				one[i] = salts[i]
				list = append(list, liquor(water, one...))
			}
		}
	}
	return list
}

// greatLiquors have the most Water or Salts, or nearly so.
func greatLiquors(kinds []impl.Kind) []impl.Liquor {
	n := len(kinds)
	list := []impl.Liquor{liquor(impl.MaxWater, make([]int, n)...), liquor(0, slices.Repeat([]int{impl.MaxWater}, n)...), liquor(impl.MaxWater, slices.Repeat([]int{impl.MaxWater}, n)...), liquor(impl.MaxWater-1, slices.Repeat([]int{impl.MaxWater - 1}, n)...), liquor(1, slices.Repeat([]int{impl.MaxWater}, n)...)}
	dissolved := make([]int, n)
	for i, k := range kinds {
		dissolved[i] = k.Grams * 1000
	}
	return append(list, liquor(impl.MaxWater, dissolved...), liquor(impl.MaxWater-1, dissolved...))
}

// noKinds are Kinds with something that is beyond its limit.
func noKinds() []impl.Kind {
	list := kindsOf(impl.Kind{}, kind("b", 0, 0), kind("", 0, 1), kind("b", -1, 1))
	for _, name := range noWords {
		list = append(list, kind(name, 0, 1), kind(name, greatestKindWater, greatestKindGrams))
	}
	for _, water := range badKindWaters {
		list = append(list, kind("b", water, 1), kind("b", water, greatestKindGrams))
	}
	for _, grams := range badKindGrams {
		list = append(list, kind("b", 0, grams), kind("b", greatestKindWater, grams))
	}
	return list
}

// badKinds are lists that are no Kinds.
func badKinds() [][]impl.Kind {
	lists := [][]impl.Kind{
		nil, {}, make([]impl.Kind, 1), make([]impl.Kind, impl.MaxKinds), sameKinds(impl.MaxKinds+1, 0, 1), sameKinds(impl.MaxKinds+2, 9, 1000), sameKinds(26, 1, 5),
		kindsOf(kind("b", 0, 1), kind("a", 0, 1)), kindsOf(kind("a", 0, 1), kind("a", 0, 1)), kindsOf(kind("a", 0, 1), kind("a", 9, 1000)), kindsOf(kind("a", 0, 1), kind("b", 0, 1), kind("b", 0, 1)), kindsOf(kind("a", 0, 1), kind("c", 0, 1), kind("b", 0, 1)), kindsOf(kind("a", 0, 1), kind("b", 0, 1), kind("a", 0, 1)), kindsOf(kind("b", 0, 1), kind("a", 0, 1), kind("c", 0, 1)),
		kindsOf(kind("aa", 0, 1), kind("a", 0, 1)), kindsOf(kind("b", 0, 1), kind("aaaaaaaaaa", 0, 1)), kindsOf(kind("ab", 0, 1), kind("aab", 0, 1)), kindsOf(kind("abcdefghij", 0, 1), kind("abcdefghij", 0, 1)), kindsOf(kind("abcdefghik", 0, 1), kind("abcdefghij", 0, 1)),
		slices.Concat(sameKinds(impl.MaxKinds-1, 0, 1), kindsOf(kind("e", 0, 1))),
	}
	for _, k := range noKinds() {
		lists = append(lists, kindsOf(k), kindsOf(kind("a", 1, 1), k), kindsOf(k, kind("c", 1, 1)), kindsOf(kind("a", 1, 1), k, kind("c", 1, 1)))
	}
	return lists
}

// guardedKinds returns the Kinds as the start of a longer list, and what checks that neither changed.
func guardedKinds(t *testing.T, kinds []impl.Kind) ([]impl.Kind, func()) {
	backing := append(slices.Clone(kinds), kind("zzzzzzzzzz", 3, 5), kind("", math.MinInt, math.MaxInt))
	before := slices.Clone(backing)
	return backing[:len(kinds)], func() {
		t.Helper()
		if !slices.Equal(backing, before) {
			t.Errorf("%v was changed to %v", before, backing)
		}
	}
}

// guardedLiquor returns the Liquor with Salts that are the start of a longer list, and what checks that neither changed.
func guardedLiquor(t *testing.T, l impl.Liquor) (impl.Liquor, func()) {
	backing := append(slices.Clone(l.Salts), 77, -1, math.MaxInt)
	before := slices.Clone(backing)
	return impl.Liquor{Water: l.Water, Salts: backing[:len(l.Salts)]}, func() {
		t.Helper()
		if !slices.Equal(backing, before) {
			t.Errorf("%v was changed to %v", before, backing)
		}
	}
}

// dried returns a Liquor with less Water, which has a memory of its own.
func dried(l impl.Liquor, water int) impl.Liquor {
	return liquor(l.Water-water, slices.Clone(l.Salts)...)
}

func wantFall(t *testing.T, call string, l impl.Liquor, fallen []int, ok bool, want impl.Liquor, wantFallen []int, wantOK bool) {
	t.Helper()
	if l.Water != want.Water || !slices.Equal(l.Salts, want.Salts) || !slices.Equal(fallen, wantFallen) || ok != wantOK {
		t.Errorf("%s: got %v, %v, %v, want %v, %v, %v", call, l, fallen, ok, want, wantFallen, wantOK)
	}
}

// fallBy lets the Kinds fall out kilogram by kilogram.
func fallBy(kinds []impl.Kind, l impl.Liquor) (impl.Liquor, []int) {
	after, fallen := liquor(l.Water), []int{}
	for i, k := range kinds {
		stays, n := k.Grams*after.Water/1000, 0
		for l.Salts[i]-n > stays && k.Water*(n+1)/10 <= after.Water {
			n++
		}
		after.Water -= k.Water * n / 10
		after.Salts = append(after.Salts, l.Salts[i]-n)
		fallen = append(fallen, n)
	}
	return after, fallen
}

// drought has, for each number of kilograms of Water that are gone, a bit for each Kind of which there is too much then.
type drought []uint8

func droughtOf(kinds []impl.Kind, l impl.Liquor) drought {
	steps := make(drought, l.Water+1)
	for gone := range steps {
		for i, k := range kinds {
			if l.Salts[i] > k.Grams*(l.Water-gone)/1000 {
				steps[gone] |= 1 << i
			}
		}
	}
	return steps
}

func (d drought) first() (int, int, bool) {
	for gone, full := range d {
		for i := range impl.MaxKinds {
			if full>>i&1 == 1 {
				return i, gone, true
			}
		}
	}
	return 0, 0, false
}

// keep goes through all kilograms from the last one on.
func (d drought) keep(i int) (int, bool) {
	for gone := len(d) - 1; gone >= 0; gone-- {
		if d[gone]>>i&1 == 0 {
			return gone, true
		}
	}
	return 0, false
}

func (d drought) pure(i int) (int, int, bool) {
	least, most, found := 0, 0, false
	for gone, full := range d {
		if full == 1<<i {
			if !found {
				least, found = gone, true
			}
			most = gone
		}
	}
	return least, most, found
}

// isPure reports by the program's own IsFull whether there is too much of one Kind alone.
func isPure(kinds []impl.Kind, l impl.Liquor, i int) bool {
	for j := range kinds {
		if full, ok := impl.IsFull(kinds, l, j); !ok || full != (j == i) {
			return false
		}
	}
	return true
}

// checkTold holds the told kilograms, and one more and one less, against what IsFull tells of the Liquor after them.
func checkTold(t *testing.T, kinds []impl.Kind, l impl.Liquor, i int) {
	t.Helper()
	call := fmt.Sprint(" ", kinds, l, i)
	keep, ok := impl.DryToKeep(kinds, l, i)
	for _, n := range []int{0, keep - 1, keep, keep + 1} {
		if n >= 0 && n <= l.Water {
			if full, _ := impl.IsFull(kinds, dried(l, n), i); full != (!ok || n > keep) {
				t.Error("DryToKeep", call, "tells", keep, ok, "but after", n, "IsFull is", full)
			}
		}
	}
	least, most, ok := impl.PureBetween(kinds, l, i)
	for _, n := range []int{0, least - 1, least, least + 1, most - 1, most, most + 1, l.Water} {
		if n >= 0 && n <= l.Water {
			if pure := isPure(kinds, dried(l, n), i); pure != (ok && least <= n && n <= most) {
				t.Error("PureBetween", call, "tells", least, most, ok, "but after", n, "it is", pure)
			}
		}
	}
}

// checkFirst holds the told Kind and kilograms against what IsFull tells of the Liquor after them and after one less.
func checkFirst(t *testing.T, kinds []impl.Kind, l impl.Liquor) {
	t.Helper()
	first, after, ok := impl.FirstToFall(kinds, l)
	if !ok {
		after = l.Water
	}
	for i := range kinds {
		if full, _ := impl.IsFull(kinds, dried(l, after), i); ok && i <= first && full != (i == first) || !ok && full {
			t.Error("FirstToFall", kinds, l, "tells", first, after, ok, "but IsFull of", i, "is", full)
		}
		if after > 0 {
			if full, _ := impl.IsFull(kinds, dried(l, after-1), i); full {
				t.Error("FirstToFall", kinds, l, "tells", first, after, ok, "but there is too much of", i, "before")
			}
		}
	}
}

// checkDrying holds falls after some Water is gone against single kilograms, and the sums against what was there.
func checkDrying(t *testing.T, kinds []impl.Kind, l impl.Liquor, water int) {
	t.Helper()
	call := fmt.Sprint("AfterDrying ", kinds, l, water)
	after, fallen, ok := impl.AfterDrying(kinds, l, water)
	want, wantFallen := fallBy(kinds, dried(l, water))
	wantFall(t, call, after, fallen, ok, want, wantFallen, true)
	checkSums10(t, call, kinds, l, water, after, fallen)
	if water == 0 {
		after, fallen, ok = impl.FallOut(kinds, l)
		wantFall(t, "FallOut of "+call, after, fallen, ok, want, wantFallen, true)
		checkSums10(t, "FallOut of "+call, kinds, l, 0, after, fallen)
	}
}

// checkSums10 checks that what stays, what fell out and the Water with it are together what was there.
func checkSums10(t *testing.T, call string, kinds []impl.Kind, l impl.Liquor, gone int, after impl.Liquor, fallen []int) {
	t.Helper()
	if len(after.Salts) != len(kinds) || len(fallen) != len(kinds) || !impl.IsLiquor(kinds, after) {
		t.Error(call, "leaves no Liquor of the Kinds", after, fallen)
		return
	}
	water, all := after.Water+gone, gone
	for i, k := range kinds {
		with := k.Water * fallen[i] / 10
		water += with
		all += with + fallen[i]
		if fallen[i] < 0 || after.Salts[i]+fallen[i] != l.Salts[i] {
			t.Error(call, "changes the kilograms of", k, after, fallen)
		}
	}
	before, _ := impl.LiquorMass(kinds, l)
	left, ok := impl.LiquorMass(kinds, after)
	if water != l.Water || !ok || left+all != before {
		t.Error(call, "changes the sums: Water", water, "and all", left+all, after, fallen)
	}
}

// checkLiquor holds all that is told of a Liquor against kilograms one by one.
func checkLiquor(t *testing.T, kinds []impl.Kind, l impl.Liquor, waters ...int) {
	t.Helper()
	kinds, checkKinds := guardedKinds(t, kinds)
	l, checkSalts := guardedLiquor(t, l)
	call := fmt.Sprint(" ", kinds, l)
	if !impl.AreKinds(kinds) || !impl.IsLiquor(kinds, l) {
		t.Error("not valid:", call)
	}
	steps, sum := droughtOf(kinds, l), l.Water
	for i, salt := range l.Salts {
		full, ok := impl.IsFull(kinds, l, i)
		wantAnswer(t, fmt.Sprint("IsFull", call, i), full, ok, steps[0]>>i&1 == 1, true)
		keep, ok := impl.DryToKeep(kinds, l, i)
		want, wantOK := steps.keep(i)
		wantInt(t, fmt.Sprint("DryToKeep", call, i), keep, ok, want, wantOK)
		least, most, ok := impl.PureBetween(kinds, l, i)
		wantLeast, wantMost, wantOK := steps.pure(i)
		wantTwo(t, fmt.Sprint("PureBetween", call, i), least, most, ok, wantLeast, wantMost, wantOK)
		checkTold(t, kinds, l, i)
		sum += salt
	}
	first, after, ok := impl.FirstToFall(kinds, l)
	wantFirst, wantAfter, wantOK := steps.first()
	wantTwo(t, "FirstToFall"+call, first, after, ok, wantFirst, wantAfter, wantOK)
	checkFirst(t, kinds, l)
	mass, ok := impl.LiquorMass(kinds, l)
	wantInt(t, "LiquorMass"+call, mass, ok, sum, true)
	for _, water := range append(waters, 0, 1, after-1, after, after+1, l.Water/2, l.Water-1, l.Water) {
		if water >= 0 && water <= l.Water {
			checkDrying(t, kinds, l, water)
		}
	}
	checkKinds()
	checkSalts()
}

// expectNoLiquor wants the zero values of all that is told of a Liquor.
func expectNoLiquor(t *testing.T, kinds []impl.Kind, l impl.Liquor, indices ...int) {
	t.Helper()
	call := fmt.Sprint(" ", kinds, l)
	if impl.IsLiquor(kinds, l) {
		t.Error("IsLiquor", call)
	}
	after, fallen, ok := impl.FallOut(kinds, l)
	wantFall(t, "FallOut"+call, after, fallen, ok, impl.Liquor{}, nil, false)
	for _, water := range []int{0, 1, l.Water, -1, impl.MaxWater} {
		expectNoDrying(t, kinds, l, water)
	}
	first, n, ok := impl.FirstToFall(kinds, l)
	wantTwo(t, "FirstToFall"+call, first, n, ok, 0, 0, false)
	mass, ok := impl.LiquorMass(kinds, l)
	wantInt(t, "LiquorMass"+call, mass, ok, 0, false)
	for _, i := range indices {
		expectNoIndex(t, kinds, l, i)
	}
}

func expectNoDrying(t *testing.T, kinds []impl.Kind, l impl.Liquor, water int) {
	t.Helper()
	after, fallen, ok := impl.AfterDrying(kinds, l, water)
	wantFall(t, fmt.Sprint("AfterDrying ", kinds, l, water), after, fallen, ok, impl.Liquor{}, nil, false)
}

// expectNoIndex wants the zero values of what is told of one Kind.
func expectNoIndex(t *testing.T, kinds []impl.Kind, l impl.Liquor, i int) {
	t.Helper()
	call := fmt.Sprint(" ", kinds, l, i)
	full, ok := impl.IsFull(kinds, l, i)
	wantAnswer(t, "IsFull"+call, full, ok, false, false)
	keep, ok := impl.DryToKeep(kinds, l, i)
	wantInt(t, "DryToKeep"+call, keep, ok, 0, false)
	least, most, ok := impl.PureBetween(kinds, l, i)
	wantTwo(t, "PureBetween"+call, least, most, ok, 0, 0, false)
}

func TestAreKinds(t *testing.T) {
	for _, kinds := range handKinds() {
		kinds, check := guardedKinds(t, kinds)
		if !impl.AreKinds(kinds) {
			t.Error("are Kinds:", kinds)
		}
		check()
	}
	for _, kinds := range badKinds() {
		kinds, check := guardedKinds(t, kinds)
		if impl.AreKinds(kinds) {
			t.Error("are no Kinds:", kinds)
		}
		check()
	}
	for n := range 30 {
		if want := n >= 1 && n <= impl.MaxKinds; impl.AreKinds(sameKinds(n, 3, 7)) != want && n <= 26 {
			t.Error(n, "are Kinds: not", want)
		}
	}
}

// TestAreKindsOfAllNumbers tries each number of a Kind apart from the other one.
func TestAreKindsOfAllNumbers(t *testing.T) {
	for n := -20; n <= greatestKindGrams+20; n++ {
		if want := n >= 0 && n <= greatestKindWater; impl.AreKinds(kindsOf(kind("a", n, 5))) != want {
			t.Error(n, "is a Water: not", want)
		}
		if want := n >= 1 && n <= greatestKindGrams; impl.AreKinds(kindsOf(kind("a", 5, n))) != want {
			t.Error(n, "are Grams: not", want)
		}
	}
}

// TestAreKindsOfAllNames tries all bytes at all places of names of all lengths, and the order of drawn names.
func TestAreKindsOfAllNames(t *testing.T) {
	for length := range 14 {
		for place := range max(length, 1) {
			for b := range 256 {
				name := []byte("maltsokine"[:min(length, 10)] + strings.Repeat("x", max(length-10, 0)))
				if length > 0 {
					name[place] = byte(b)
				}
				if want := wordPattern.Match(name); impl.AreKinds(kindsOf(kind(string(name), 1, 1))) != want {
					t.Errorf("%q is a word: not %v", name, want)
				}
			}
		}
	}
	r := rand.New(rand.NewPCG(10, 29))
	for range 3000 {
		a, b := randomWord(r), randomWord(r)
		if impl.AreKinds(kindsOf(kind(a, 1, 1), kind(b, 1, 1))) != (a < b) {
			t.Error("the order of", a, b)
		}
	}
}

func TestIsLiquor(t *testing.T) {
	for _, kinds := range handKinds() {
		n := len(kinds)
		for _, low := range []int{0, 1, 1000, impl.MaxWater - 1, impl.MaxWater} {
			for i := range n {
				salts := make([]int, n)
				salts[i] = low
				if !impl.IsLiquor(kinds, liquor(low, salts...)) || !impl.IsLiquor(kinds, liquor(0, salts...)) || !impl.IsLiquor(kinds, liquor(low, make([]int, n)...)) {
					t.Error("is a Liquor with", low, "of", i, kinds)
				}
			}
		}
		for length := range impl.MaxKinds + 3 {
			if impl.IsLiquor(kinds, liquor(10, make([]int, length)...)) != (length == n) {
				t.Error("a Liquor with", length, "Salts", kinds)
			}
		}
	}
}

func TestLiquorsByHand(t *testing.T) {
	for _, kinds := range handKinds() {
		for _, l := range liquorsOf(kinds) {
			checkLiquor(t, kinds, l)
		}
	}
}

func TestGreatLiquors(t *testing.T) {
	r := rand.New(rand.NewPCG(10, 30))
	for i, kinds := range handKinds() {
		list := greatLiquors(kinds)
		checkLiquor(t, kinds, list[i%len(list)])
		checkLiquor(t, kinds, randomLiquor(r, kinds, impl.MaxWater))
		for _, l := range list {
			checkDrying(t, kinds, l, 0)
			checkDrying(t, kinds, l, r.IntN(l.Water+1))
		}
	}
}

func TestDrawnLiquors(t *testing.T) {
	r := rand.New(rand.NewPCG(10, 31))
	for range 4000 {
		kinds := randomKinds(r)
		l := randomLiquor(r, kinds, []int{0, 20, 300, 3000}[r.IntN(4)])
		checkLiquor(t, kinds, l, r.IntN(l.Water+1))
	}
}

// TestSmallLiquors has one Kind with each Water and few and many Grams, in all small Liquors.
func TestSmallLiquors(t *testing.T) {
	for water := range greatestKindWater + 1 {
		for _, grams := range []int{1, 99, 100, 333, 334, 500, 501, 999, greatestKindGrams} {
			kinds := kindsOf(kind("a", water, grams))
			for l := range 24 {
				for salt := range 36 {
					want, wantFallen := fallBy(kinds, liquor(l, salt))
					after, fallen, ok := impl.FallOut(kinds, liquor(l, salt))
					if !ok || after.Water != want.Water || !slices.Equal(after.Salts, want.Salts) || !slices.Equal(fallen, wantFallen) {
						t.Fatal("FallOut", kinds, l, salt, "got", after, fallen, ok, "want", want, wantFallen)
					}
				}
			}
		}
	}
}

func TestFallOut(t *testing.T) {
	some := kindsOf(kind("gyps", 0, 2), kind("halite", 0, 360))
	first, second := kindsOf(kind("a", 9, 1), kind("b", 0, 100)), kindsOf(kind("a", 0, 100), kind("b", 9, 1))
	one := func(water int, grams int) []impl.Kind { return kindsOf(kind("a", water, grams)) }
	for _, c := range []struct {
		kinds  []impl.Kind
		l      impl.Liquor
		want   impl.Liquor
		fallen []int
	}{
		{some, liquor(1000, 5, 300), liquor(1000, 2, 300), []int{3, 0}}, {some, liquor(500, 5, 300), liquor(500, 1, 180), []int{4, 120}}, {some, liquor(1000, 2, 360), liquor(1000, 2, 360), []int{0, 0}}, {some, liquor(1000, 3, 361), liquor(1000, 2, 360), []int{1, 1}}, {some, liquor(0, 5, 300), liquor(0, 0, 0), []int{5, 300}}, {some, liquor(0, 0, 0), liquor(0, 0, 0), []int{0, 0}}, {some, liquor(77, 0, 0), liquor(77, 0, 0), []int{0, 0}},
		// What stays dissolved is rounded down.
		{one(0, 2), liquor(499, 1), liquor(499, 0), []int{1}}, {one(0, 2), liquor(500, 1), liquor(500, 1), []int{0}}, {one(0, 2), liquor(500, 2), liquor(500, 1), []int{1}}, {one(0, 2), liquor(999, 2), liquor(999, 1), []int{1}}, {one(0, 999), liquor(1, 1), liquor(1, 0), []int{1}}, {one(0, 1000), liquor(1, 1), liquor(1, 1), []int{0}}, {one(0, 1000), liquor(1, 2), liquor(1, 1), []int{1}}, {one(0, 1), liquor(999, 1), liquor(999, 0), []int{1}}, {one(0, 1), liquor(1000, 1), liquor(1000, 1), []int{0}},
		{one(0, 1000), liquor(impl.MaxWater, impl.MaxWater), liquor(impl.MaxWater, impl.MaxWater), []int{0}}, {one(9, 999), liquor(impl.MaxWater, impl.MaxWater), liquor(999100, 999000), []int{1000}}, {one(0, 1), liquor(impl.MaxWater, impl.MaxWater), liquor(impl.MaxWater, 1000), []int{999000}},
		// The Water that goes with it is rounded down too.
		{one(9, 100), liquor(100, 10), liquor(100, 10), []int{0}}, {one(9, 100), liquor(100, 11), liquor(100, 10), []int{1}}, {one(9, 100), liquor(100, 12), liquor(99, 10), []int{2}}, {one(9, 100), liquor(100, 20), liquor(91, 10), []int{10}}, {one(9, 100), liquor(100, 21), liquor(91, 10), []int{11}}, {one(1, 100), liquor(100, 19), liquor(100, 10), []int{9}}, {one(1, 100), liquor(100, 20), liquor(99, 10), []int{10}}, {one(1, 100), liquor(100, 29), liquor(99, 10), []int{19}}, {one(1, 100), liquor(100, 30), liquor(98, 10), []int{20}},
		// A Kind that takes all the Water, and of which more would fall out than there is Water for.
		{one(9, 100), liquor(10, 100), liquor(0, 88), []int{12}}, {one(9, 100), liquor(9, 10), liquor(0, 0), []int{10}}, {one(9, 100), liquor(9, 11), liquor(0, 0), []int{11}}, {one(9, 100), liquor(9, 12), liquor(0, 1), []int{11}}, {one(9, 100), liquor(9, 9), liquor(1, 0), []int{9}}, {one(5, 1), liquor(1, impl.MaxWater), liquor(0, 999997), []int{3}}, {one(1, 1), liquor(1, impl.MaxWater), liquor(0, 999981), []int{19}}, {one(9, 1000), liquor(impl.MaxWater/2, impl.MaxWater), liquor(50000, 500000), []int{500000}},
		// Without Water so much falls out that the Water with it is rounded down to none.
		{one(0, 100), liquor(0, 5), liquor(0, 0), []int{5}}, {one(9, 100), liquor(0, 5), liquor(0, 4), []int{1}}, {one(5, 100), liquor(0, 5), liquor(0, 4), []int{1}}, {one(4, 100), liquor(0, 5), liquor(0, 3), []int{2}}, {one(1, 100), liquor(0, 50), liquor(0, 41), []int{9}}, {one(1, 100), liquor(0, 9), liquor(0, 0), []int{9}},
		// A Kind that falls out only because one ahead of it took Water, and one that is ahead and looked at once.
		{first, liquor(1000, 101, 100), liquor(910, 1, 91), []int{100, 9}}, {first, liquor(1000, 1, 100), liquor(1000, 1, 100), []int{0, 0}}, {first, liquor(1000, 2, 100), liquor(1000, 1, 100), []int{1, 0}}, {first, liquor(1000, 3, 100), liquor(999, 1, 99), []int{2, 1}}, {second, liquor(1000, 100, 101), liquor(910, 100, 1), []int{0, 100}}, {second, liquor(1000, 101, 101), liquor(910, 100, 1), []int{1, 100}},
		{kindsOf(kind("a", 9, 100), kind("b", 5, 360)), liquor(10, 100, 3), liquor(0, 88, 2), []int{12, 1}}, {kindsOf(kind("a", 9, 100), kind("b", 0, 360)), liquor(10, 100, 3), liquor(0, 88, 0), []int{12, 3}},
		// Several at once, and each takes Water from the next ones.
		{sameKinds(6, 0, 100), liquor(100, 10, 11, 12, 13, 14, 15), liquor(100, 10, 10, 10, 10, 10, 10), []int{0, 1, 2, 3, 4, 5}}, {sameKinds(3, 5, 100), liquor(100, 30, 30, 30), liquor(69, 10, 9, 8), []int{20, 21, 22}}, {sameKinds(6, 9, 100), liquor(9, 10, 1, 2, 0, 1, 3), liquor(0, 0, 0, 1, 0, 0, 2), []int{10, 1, 1, 0, 1, 1}},
	} {
		after, fallen, ok := impl.FallOut(c.kinds, c.l)
		wantFall(t, fmt.Sprint("FallOut ", c.kinds, c.l), after, fallen, ok, c.want, c.fallen, true)
		after, fallen, ok = impl.AfterDrying(c.kinds, c.l, 0)
		wantFall(t, fmt.Sprint("AfterDrying without drying ", c.kinds, c.l), after, fallen, ok, c.want, c.fallen, true)
	}
}

func TestAfterDrying(t *testing.T) {
	some, one := kindsOf(kind("gyps", 0, 2), kind("halite", 0, 360)), kindsOf(kind("a", 9, 100))
	for _, c := range []struct {
		kinds  []impl.Kind
		l      impl.Liquor
		water  int
		want   impl.Liquor
		fallen []int
	}{
		{some, liquor(1000, 5, 300), 500, liquor(500, 1, 180), []int{4, 120}}, {some, liquor(1000, 5, 300), 0, liquor(1000, 2, 300), []int{3, 0}}, {some, liquor(1000, 5, 300), 1, liquor(999, 1, 300), []int{4, 0}}, {some, liquor(1000, 5, 300), 166, liquor(834, 1, 300), []int{4, 0}}, {some, liquor(1000, 5, 300), 167, liquor(833, 1, 299), []int{4, 1}},
		{some, liquor(1000, 5, 300), 1000, liquor(0, 0, 0), []int{5, 300}}, {some, liquor(1000, 5, 300), 999, liquor(1, 0, 0), []int{5, 300}}, {some, liquor(1000, 5, 300), 997, liquor(3, 0, 1), []int{5, 299}}, {some, liquor(0, 5, 300), 0, liquor(0, 0, 0), []int{5, 300}}, {some, liquor(1, 0, 0), 1, liquor(0, 0, 0), []int{0, 0}}, {some, liquor(impl.MaxWater, 0, 0), impl.MaxWater, liquor(0, 0, 0), []int{0, 0}},
		{one, liquor(100, 10), 0, liquor(100, 10), []int{0}}, {one, liquor(100, 10), 1, liquor(99, 9), []int{1}}, {one, liquor(100, 10), 10, liquor(90, 9), []int{1}}, {one, liquor(100, 10), 11, liquor(88, 8), []int{2}}, {one, liquor(100, 10), 100, liquor(0, 9), []int{1}}, {one, liquor(100, 10), 99, liquor(0, 8), []int{2}}, {one, liquor(100, 100), 90, liquor(0, 88), []int{12}}, {one, liquor(impl.MaxWater, impl.MaxWater), impl.MaxWater, liquor(0, 999999), []int{1}}, {one, liquor(impl.MaxWater, impl.MaxWater), 0, liquor(190000, 100000), []int{900000}},
	} {
		after, fallen, ok := impl.AfterDrying(c.kinds, c.l, c.water)
		wantFall(t, fmt.Sprint("AfterDrying ", c.kinds, c.l, c.water), after, fallen, ok, c.want, c.fallen, true)
	}
}

func TestIsFull(t *testing.T) {
	kinds := kindsOf(kind("a", 9, 100), kind("b", 0, 3))
	for _, c := range []struct {
		l    impl.Liquor
		i    int
		want bool
	}{
		{liquor(1000, 100, 0), 0, false}, {liquor(1000, 101, 0), 0, true}, {liquor(1000, 99, 0), 0, false}, {liquor(1009, 100, 0), 0, false}, {liquor(1009, 101, 0), 0, true}, {liquor(1010, 101, 0), 0, false}, {liquor(999, 100, 0), 0, true}, {liquor(0, 0, 0), 0, false}, {liquor(0, 1, 0), 0, true}, {liquor(9, 1, 0), 0, true}, {liquor(10, 1, 0), 0, false},
		{liquor(1000, 0, 3), 1, false}, {liquor(1000, 0, 4), 1, true}, {liquor(333, 0, 1), 1, true}, {liquor(334, 0, 1), 1, false}, {liquor(0, 0, 0), 1, false}, {liquor(0, 9, 1), 1, true}, {liquor(impl.MaxWater, 0, 3000), 1, false}, {liquor(impl.MaxWater, 0, 3001), 1, true}, {liquor(impl.MaxWater, 0, impl.MaxWater), 1, true},
		// The Kind ahead takes its Water only in a fall.
		{liquor(1000, 1000, 3), 1, false},
	} {
		full, ok := impl.IsFull(kinds, c.l, c.i)
		wantAnswer(t, fmt.Sprint("IsFull ", c.l, c.i), full, ok, c.want, true)
	}
}

func TestFirstToFall(t *testing.T) {
	some, two := kindsOf(kind("gyps", 0, 2), kind("halite", 0, 360)), kindsOf(kind("a", 9, 100), kind("b", 0, 200))
	for _, c := range []struct {
		kinds    []impl.Kind
		l        impl.Liquor
		i, after int
		ok       bool
	}{
		{some, liquor(1000, 5, 300), 0, 0, true}, {some, liquor(1000, 0, 300), 1, 167, true}, {some, liquor(1000, 2, 300), 0, 1, true}, {some, liquor(1000, 1, 300), 1, 167, true}, {some, liquor(1000, 0, 0), 0, 0, false}, {some, liquor(0, 0, 0), 0, 0, false}, {some, liquor(0, 0, 1), 1, 0, true}, {some, liquor(0, 1, 1), 0, 0, true}, {some, liquor(1000, 5, 361), 0, 0, true}, {some, liquor(1000, 2, 361), 1, 0, true}, {some, liquor(impl.MaxWater, 0, 0), 0, 0, false},
		// Ties, and Kinds that just win.
		{two, liquor(1000, 50, 100), 0, 501, true}, {two, liquor(1000, 50, 101), 1, 496, true}, {two, liquor(1000, 51, 100), 0, 491, true}, {two, liquor(1000, 49, 100), 1, 501, true}, {two, liquor(1000, 50, 99), 0, 501, true}, {two, liquor(1000, 0, 1), 1, 996, true}, {two, liquor(1000, 1, 0), 0, 991, true}, {two, liquor(1000, 1, 2), 0, 991, true}, {two, liquor(1000, 1, 3), 1, 986, true}, {two, liquor(1000, 100, 0), 0, 1, true}, {two, liquor(1000, 101, 201), 0, 0, true}, {two, liquor(1000, 100, 201), 1, 0, true}, {two, liquor(1000, 101, 999), 0, 0, true},
		{sameKinds(6, 4, 100), liquor(100, 0, 0, 7, 8, 8, 7), 3, 21, true}, {sameKinds(6, 4, 100), liquor(100, 0, 0, 0, 0, 0, 1), 5, 91, true}, {sameKinds(6, 4, 100), liquor(100, 5, 5, 5, 5, 5, 5), 0, 51, true}, {sameKinds(1, 0, 1), liquor(impl.MaxWater, 1), 0, 999001, true}, {sameKinds(1, 0, 1000), liquor(impl.MaxWater, 1), 0, impl.MaxWater, true}, {sameKinds(1, 0, 1000), liquor(impl.MaxWater, impl.MaxWater), 0, 1, true},
	} {
		first, after, ok := impl.FirstToFall(c.kinds, c.l)
		wantTwo(t, fmt.Sprint("FirstToFall ", c.kinds, c.l), first, after, ok, c.i, c.after, c.ok)
	}
}

func TestDryToKeep(t *testing.T) {
	kinds := kindsOf(kind("a", 9, 100), kind("b", 0, 3), kind("c", 0, 1000))
	for _, c := range []struct {
		l    impl.Liquor
		i    int
		want int
		ok   bool
	}{
		{liquor(1000, 0, 0, 0), 0, 1000, true}, {liquor(1000, 1, 0, 0), 0, 990, true}, {liquor(1000, 50, 999, 999), 0, 500, true}, {liquor(1000, 99, 0, 0), 0, 10, true}, {liquor(1000, 100, 0, 0), 0, 0, true}, {liquor(1000, 101, 0, 0), 0, 0, false}, {liquor(0, 0, 0, 0), 0, 0, true}, {liquor(0, 1, 0, 0), 0, 0, false}, {liquor(0, 5, 5, 0), 2, 0, true},
		{liquor(1000, 0, 1, 0), 1, 666, true}, {liquor(1000, 0, 2, 0), 1, 333, true}, {liquor(1000, 0, 3, 0), 1, 0, true}, {liquor(1000, 0, 4, 0), 1, 0, false}, {liquor(1001, 0, 3, 0), 1, 1, true}, {liquor(999, 0, 3, 0), 1, 0, false}, {liquor(impl.MaxWater, 0, 3000, 0), 1, 0, true}, {liquor(impl.MaxWater, 0, 3001, 0), 1, 0, false}, {liquor(impl.MaxWater, 0, 0, 0), 1, impl.MaxWater, true}, {liquor(impl.MaxWater, 0, impl.MaxWater, 0), 1, 0, false},
		{liquor(1000, 0, 0, 1), 2, 999, true}, {liquor(1000, 0, 0, 1000), 2, 0, true}, {liquor(1000, 0, 0, 1001), 2, 0, false}, {liquor(impl.MaxWater, 0, 0, impl.MaxWater), 2, 0, true}, {liquor(impl.MaxWater-1, 0, 0, impl.MaxWater), 2, 0, false}, {liquor(impl.MaxWater, 0, 0, 1), 2, 999999, true},
	} {
		keep, ok := impl.DryToKeep(kinds, c.l, c.i)
		wantInt(t, fmt.Sprint("DryToKeep ", c.l, c.i), keep, ok, c.want, c.ok)
	}
}

func TestPureBetween(t *testing.T) {
	some := kindsOf(kind("gyps", 0, 2), kind("halite", 0, 360))
	two, far := kindsOf(kind("a", 9, 100), kind("b", 0, 200)), kindsOf(kind("a", 0, 100), kind("c", 0, 1000))
	for _, c := range []struct {
		kinds       []impl.Kind
		l           impl.Liquor
		i           int
		least, most int
		ok          bool
	}{
		{some, liquor(1000, 0, 300), 1, 167, 1000, true}, {some, liquor(1000, 5, 300), 1, 0, 0, false}, {some, liquor(1000, 5, 300), 0, 0, 166, true}, {some, liquor(1000, 0, 300), 0, 0, 0, false}, {some, liquor(1000, 1, 300), 1, 167, 500, true}, {some, liquor(1000, 1, 300), 0, 0, 0, false}, {some, liquor(1000, 0, 0), 0, 0, 0, false}, {some, liquor(0, 0, 0), 1, 0, 0, false},
		{two, liquor(1000, 50, 100), 0, 0, 0, false}, {two, liquor(1000, 50, 100), 1, 0, 0, false}, {two, liquor(1000, 50, 101), 1, 496, 500, true}, {two, liquor(1000, 50, 101), 0, 0, 0, false}, {two, liquor(1000, 51, 100), 0, 491, 500, true}, {two, liquor(1000, 49, 100), 1, 501, 510, true}, {two, liquor(1000, 0, 100), 1, 501, 1000, true}, {two, liquor(1000, 0, 100), 0, 0, 0, false},
		// Too much already, of one or of both.
		{two, liquor(1000, 101, 0), 0, 0, 1000, true}, {two, liquor(1000, 101, 100), 0, 0, 500, true}, {two, liquor(1000, 101, 100), 1, 0, 0, false}, {two, liquor(1000, 101, 200), 0, 0, 0, true}, {two, liquor(1000, 100, 201), 1, 0, 0, true}, {two, liquor(1000, 101, 201), 0, 0, 0, false}, {two, liquor(1000, 101, 201), 1, 0, 0, false}, {two, liquor(0, 1, 0), 0, 0, 0, true}, {two, liquor(0, 0, 1), 1, 0, 0, true}, {two, liquor(0, 1, 1), 0, 0, 0, false},
		// A single number of kilograms, and none.
		{far, liquor(1000, 50, 499), 0, 501, 501, true}, {far, liquor(1000, 50, 500), 0, 0, 0, false}, {far, liquor(1000, 50, 500), 1, 0, 0, false}, {far, liquor(1000, 50, 501), 1, 500, 500, true}, {far, liquor(1000, 50, 501), 0, 0, 0, false}, {far, liquor(1000, 50, 498), 0, 501, 502, true}, {far, liquor(1000, 0, 1), 1, 1000, 1000, true}, {far, liquor(1000, 1, 0), 0, 991, 1000, true}, {far, liquor(1000, 1, 1), 0, 991, 999, true},
		{sameKinds(6, 0, 100), liquor(100, 1, 2, 3, 9, 8, 0), 3, 11, 20, true}, {sameKinds(6, 0, 100), liquor(100, 1, 2, 3, 9, 8, 0), 4, 0, 0, false}, {sameKinds(6, 0, 100), liquor(100, 8, 2, 3, 7, 7, 9), 5, 11, 20, true}, {sameKinds(6, 0, 100), liquor(100, 9, 2, 3, 7, 7, 9), 5, 0, 0, false}, {sameKinds(1, 0, 1), liquor(impl.MaxWater, 1), 0, 999001, impl.MaxWater, true}, {sameKinds(2, 0, 1), liquor(impl.MaxWater, 1, impl.MaxWater), 1, 0, 999000, true},
	} {
		least, most, ok := impl.PureBetween(c.kinds, c.l, c.i)
		wantTwo(t, fmt.Sprint("PureBetween ", c.kinds, c.l, c.i), least, most, ok, c.least, c.most, c.ok)
	}
}

func TestLiquorMass(t *testing.T) {
	for _, c := range []struct {
		kinds []impl.Kind
		l     impl.Liquor
		want  int
	}{
		{sameKinds(2, 0, 2), liquor(1000, 5, 300), 1305}, {sameKinds(1, 0, 1), liquor(0, 0), 0}, {sameKinds(1, 9, 1), liquor(7, 0), 7}, {sameKinds(1, 9, 1), liquor(0, 7), 7}, {sameKinds(3, 9, 1), liquor(1, 10, 100, 1000), 1111}, {sameKinds(6, 9, 1), liquor(1, 2, 3, 4, 5, 6, 7), 28},
		{sameKinds(6, 9, 1000), liquor(impl.MaxWater, slices.Repeat([]int{impl.MaxWater}, 6)...), 7 * impl.MaxWater},
	} {
		mass, ok := impl.LiquorMass(c.kinds, c.l)
		wantInt(t, fmt.Sprint("LiquorMass ", c.kinds, c.l), mass, ok, c.want, true)
	}
}

func TestNoKinds(t *testing.T) {
	for _, kinds := range badKinds() {
		kinds, check := guardedKinds(t, kinds)
		for _, l := range []impl.Liquor{{}, liquor(100, make([]int, len(kinds))...), liquor(100, slices.Repeat([]int{50}, len(kinds))...), liquor(0, 1)} {
			l, checkSalts := guardedLiquor(t, l)
			expectNoLiquor(t, kinds, l, 0, 1, -1, len(kinds)-1)
			checkSalts()
		}
		check()
	}
}

// badLiquorsOf are no Liquors of the Kinds.
func badLiquorsOf(kinds []impl.Kind) []impl.Liquor {
	n := len(kinds)
	list := []impl.Liquor{{}, {Water: 100}, liquor(100, make([]int, n-1)...), liquor(100, make([]int, n+1)...), liquor(100, make([]int, n+2)...), liquor(0, make([]int, impl.MaxKinds+1)...), liquor(100, slices.Repeat([]int{5}, n+1)...), liquor(100, slices.Repeat([]int{5}, n-1)...)}
	for _, bad := range badKilograms {
		list = append(list, liquor(bad, make([]int, n)...), liquor(bad, slices.Repeat([]int{5}, n)...), liquor(bad, slices.Repeat([]int{bad}, n)...))
		for i := range n {
			salts := slices.Repeat([]int{7}, n)
			salts[i] = bad
			list = append(list, liquor(100, salts...), liquor(0, salts...))
		}
	}
	return list
}

func TestNoLiquors(t *testing.T) {
	for _, kinds := range handKinds() {
		kinds, check := guardedKinds(t, kinds)
		for _, l := range badLiquorsOf(kinds) {
			l, checkSalts := guardedLiquor(t, l)
			expectNoLiquor(t, kinds, l, 0, len(kinds)-1, len(kinds), -1)
			checkSalts()
		}
		check()
	}
}

func TestWrongIndicesAndWaters(t *testing.T) {
	for _, kinds := range handKinds() {
		n := len(kinds)
		for _, l := range liquorsOf(kinds)[:25] {
			l, check := guardedLiquor(t, l)
			for _, i := range []int{-1, -2, -n, n, n + 1, impl.MaxKinds, impl.MaxKinds + 1, 1 << 32, -1 << 32, math.MaxInt, math.MaxInt - 1, math.MinInt, math.MinInt + 1} {
				if i < 0 || i >= n {
					expectNoIndex(t, kinds, l, i)
				}
			}
			for _, water := range append([]int{l.Water + 1, l.Water + 2, 2*l.Water + 1}, badKilograms...) {
				expectNoDrying(t, kinds, l, water)
			}
			check()
		}
	}
}

// TestCrystalResultsAreApart writes into the results, also behind their ends, and then into the arguments.
func TestCrystalResultsAreApart(t *testing.T) {
	r := rand.New(rand.NewPCG(10, 32))
	for range 500 {
		kinds, checkKinds := guardedKinds(t, randomKinds(r))
		l, checkSalts := guardedLiquor(t, randomLiquor(r, kinds, 300))
		salts, water := slices.Clone(l.Salts), r.IntN(l.Water+1)
		call := fmt.Sprint(" ", kinds, l, water)
		dry, dryFallen := fallBy(kinds, dried(l, water))
		fell, fellFallen := fallBy(kinds, l)
		for range 2 {
			after, fallen, _ := impl.AfterDrying(kinds, l, water)
			other, otherFallen, _ := impl.AfterDrying(kinds, l, water)
			third, thirdFallen, _ := impl.FallOut(kinds, l)
			scribble(after.Salts)
			wantInts(t, "AfterDrying after its Salts were written into"+call, fallen, true, dryFallen, true)
			scribble(fallen)
			checkKinds()
			checkSalts()
			wantFall(t, "AfterDrying after another result was written into"+call, other, otherFallen, true, dry, dryFallen, true)
			clear(l.Salts)
			wantFall(t, "AfterDrying after its argument was written into"+call, other, otherFallen, true, dry, dryFallen, true)
			wantFall(t, "FallOut after its argument was written into"+call, third, thirdFallen, true, fell, fellFallen, true)
			scribble(third.Salts)
			wantInts(t, "FallOut after its Salts were written into"+call, thirdFallen, true, fellFallen, true)
			copy(l.Salts, salts)
		}
	}
}
