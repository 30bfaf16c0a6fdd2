package tests

import (
	"fmt"
	"math"
	"math/rand/v2"
	"slices"
	"strings"
	"testing"

	"loop.example/g01019/impl"
)

const (
	mostLayers     = 12
	greatestLayer  = 500
	greatestTaking = 6000
	greatestRain   = 300
	mostSheets     = 20
)

// badGrades are no Grades.
var badGrades = []int{0, -1, -2, -4, 5, 6, 8, 1<<32 + 1, math.MaxInt, math.MaxInt - 1, math.MinInt, math.MinInt + 1}

// badLayers are no tons of a layer.
var badLayers = []int{0, -1, -2, -500, 501, 502, 1000, 1<<32 + 1, math.MaxInt, math.MaxInt - 1, math.MinInt, math.MinInt + 1}

// badTakings are beyond the limits of TakeTons.
var badTakings = []int{0, -1, -2, -6000, 6001, 6002, 1<<32 + 1, math.MaxInt, math.MaxInt - 1, math.MinInt, math.MinInt + 1}

// badRains are beyond the limits of RainOn.
var badRains = []int{-1, -2, -9, -10, -300, 301, 302, 309, 310, 1 << 32, 1<<32 + 10, math.MaxInt, math.MaxInt - 1, math.MinInt, math.MinInt + 1}

// badSheets are beyond the limits of CoverHeaps.
var badSheets = []int{-1, -2, -20, 21, 22, 1 << 32, 1<<32 + 1, math.MaxInt, math.MaxInt - 1, math.MinInt, math.MinInt + 1}

// heap returns a Heap that is not Covered with its Layers from the ground up.
func heap(id int, grade int, layers ...int) impl.Heap {
	return impl.Heap{Id: id, Grade: grade, Layers: layers}
}

// covered returns one that is.
func covered(id int, grade int, layers ...int) impl.Heap {
	return impl.Heap{Id: id, Grade: grade, Layers: layers, Covered: true}
}

func yard(list ...impl.Heap) []impl.Heap { return list }

// alike returns n layers of the same tons.
func alike(n int, tons int) []int { return slices.Repeat([]int{tons}, n) }

// rowOfHeaps returns n Heaps with the same Layers, from an Id on.
func rowOfHeaps(n int, id int, grade int, layers ...int) []impl.Heap {
	list := []impl.Heap{}
	for i := range n {
		list = append(list, heap(id+i, grade, slices.Clone(layers)...))
	}
	return list
}

// threeHeaps has one of two Layers, one that is Covered, and an empty one.
func threeHeaps() []impl.Heap {
	return yard(heap(1, 1, 100, 40), covered(2, 1, 50, 50), heap(4, 2))
}

// handYards are lists with all that the chapter names.
func handYards() [][]impl.Heap {
	return [][]impl.Heap{
		nil, {}, threeHeaps(), yard(heap(1, 1)), yard(covered(99, 4)), yard(heap(1, 1, 1)), yard(covered(99, 4, 500)), yard(heap(99, 4, 500)), yard(heap(7, 3, 500, 1)),
		// Full Heaps, and such with room for one more Layer, Covered or not.
		yard(heap(1, 1, alike(12, 1)...)), yard(heap(1, 1, alike(12, 500)...)), yard(heap(1, 1, alike(11, 500)...)), yard(heap(1, 1, alike(11, 1)...)), yard(covered(1, 1, alike(11, 500)...), heap(2, 1, alike(12, 500)...)),
		yard(heap(50, 2, 12, 11, 10, 9, 8, 7, 6, 5, 4, 3, 2, 1)), yard(heap(50, 2, 500, 400, 300, 200, 100, 50, 40, 30, 20, 10, 2), covered(51, 2, 500, 499, 498)),
		// Ties of the highest Layers, of tons and of numbers of Layers.
		yard(heap(3, 1, 40), heap(5, 1, 90, 40), heap(9, 1, 500, 40), heap(10, 2, 40)), yard(heap(3, 1), heap(5, 1), heap(9, 2)), yard(heap(3, 1), heap(5, 1, 500), heap(9, 1, 500, 500)),
		yard(heap(3, 1, 60, 40), heap(5, 1, 50, 50), heap(9, 1, 100), heap(10, 2, 99, 1), covered(11, 2, 100)), yard(heap(3, 4, 20, 20), heap(5, 4, 30, 10), covered(9, 4, 30, 11), heap(10, 4, 14, 13, 13)),
		yard(covered(3, 2, 40), heap(5, 2, 41), heap(6, 2, 39), covered(9, 2)), yard(heap(1, 1, 9), heap(2, 2, 8), heap(3, 3, 7), heap(4, 4, 6), heap(96, 1, 5), heap(97, 2, 4), heap(98, 3, 3), heap(99, 4, 2)),
		// Highest Layers that a rainy day takes, just or by far, or does not.
		yard(heap(1, 1, 9, 1), heap(2, 2, 9, 2), heap(3, 3, 9, 3), heap(4, 4, 31, 29), heap(5, 1, 31, 30), heap(6, 2, 31, 31), covered(7, 3, 9, 1), heap(8, 4), heap(9, 1, 1), heap(10, 2, 500)),
		// Full lists.
		rowOfHeaps(10, 1, 1), rowOfHeaps(10, 90, 4, alike(12, 500)...), rowOfHeaps(10, 1, 2, 7), rowOfHeaps(10, 45, 3, 200, 100), append(rowOfHeaps(9, 1, 1, 30, 20), covered(99, 1, 30, 20)),
		append(rowOfHeaps(5, 1, 1, 30), rowOfHeaps(5, 40, 1, 20, 10)...), append(rowOfHeaps(5, 1, 3), rowOfHeaps(5, 95, 3, 1)...),
	}
}

// randomHeap returns a Heap with few or all tons, so that equal ones are frequent.
func randomHeap(r *rand.Rand, id int, grade int, tons int) impl.Heap {
	layers := []int{}
	for range r.IntN([]int{3, 6, 13}[r.IntN(3)]) {
		layers = append(layers, 1+r.IntN(tons))
	}
	slices.Sort(layers)
	slices.Reverse(layers)
	return impl.Heap{Id: id, Grade: grade, Layers: layers, Covered: r.IntN(4) == 0}
}

func randomYard(r *rand.Rand) []impl.Heap {
	grades, tons := 1+r.IntN(4), []int{2, 4, 40, greatestLayer}[r.IntN(4)]
	first := r.IntN(4)
	list := []impl.Heap{}
	id := 1 + r.IntN(5)
	for range r.IntN(impl.MaxHeaps + 1) {
		list = append(list, randomHeap(r, id, 1+(first+r.IntN(grades))%4, tons))
		id += 1 + r.IntN(9)
	}
	return list
}

// goodYards are the lists by hand, and others made by chance.
func goodYards() [][]impl.Heap {
	lists := handYards()
	r := rand.New(rand.NewPCG(7, 20))
	for range 250 {
		lists = append(lists, randomYard(r))
	}
	return lists
}

// noHeaps are Heaps with a number that is beyond its limit, or with Layers that cannot be.
func noHeaps() []impl.Heap {
	list := []impl.Heap{
		{}, heap(0, 1), heap(1, 0), covered(0, 0), heap(50, 1, 1, 2), heap(50, 1, 499, 500), covered(50, 1, 9, 9, 10), heap(50, 1, 9, 8, 9), heap(50, 1, 1, 500), heap(50, 1, 5, 4, 3, 2, 1, 2),
		heap(50, 1, alike(13, 1)...), covered(50, 4, alike(13, 500)...), heap(50, 1, alike(14, 7)...), heap(50, 1, alike(1000, 7)...), heap(50, 1, 13, 12, 11, 10, 9, 8, 7, 6, 5, 4, 3, 2, 1),
		heap(50, 1, append(alike(11, 7), 8)...), heap(50, 1, append(alike(11, 7), 0)...), heap(50, 1, math.MaxInt, math.MinInt), heap(50, 1, math.MinInt, math.MaxInt), heap(50, 1, math.MaxInt, math.MaxInt, 2),
	}
	for _, id := range badIds {
		list = append(list, heap(id, 1), covered(id, 4, 500, 1))
	}
	for _, grade := range badGrades {
		list = append(list, heap(50, grade), covered(50, grade, 500, 1))
	}
	for _, tons := range badLayers {
		list = append(list, heap(50, 1, tons), covered(50, 4, 500, tons), heap(50, 1, 9, tons, 9), heap(50, 1, tons, 1), heap(50, 1, tons, tons))
	}
	return list
}

// badYards are lists that are no Heaps.
func badYards() [][]impl.Heap {
	lists := [][]impl.Heap{
		make([]impl.Heap, 2), make([]impl.Heap, impl.MaxHeaps), rowOfHeaps(11, 1, 1), rowOfHeaps(11, 89, 4, 500, 1), rowOfHeaps(12, 1, 1, 5), rowOfHeaps(99, 1, 1, 5), rowOfHeaps(10, 91, 1, 5), rowOfHeaps(10, 0, 1, 5),
		slices.Repeat(yard(heap(1, 1, 5)), 5), yard(heap(1, 1), heap(1, 1)), yard(heap(1, 1, 5), covered(1, 2, 7)), yard(heap(2, 1, 5), heap(1, 1, 5)), yard(heap(1, 1), heap(2, 1), heap(2, 1)),
		yard(heap(1, 1, 5), heap(3, 1, 5), heap(2, 1, 5)), yard(heap(1, 1, 5), heap(3, 1, 5), heap(1, 1, 5)), yard(heap(99, 1, 5), heap(98, 1, 5), heap(97, 1, 5)), yard(heap(2, 1, 5), heap(1, 1, 5), heap(3, 1, 5)),
	}
	for _, h := range noHeaps() {
		lists = append(lists, yard(h), yard(heap(1, 1, 5), covered(2, 1, 5), h), yard(heap(1, 1, 5), h, heap(99, 1, 5)), yard(h, heap(98, 1, 5), heap(99, 2)), append(rowOfHeaps(9, 1, 1, 5), h))
	}
	return lists
}

func sameHeap(a impl.Heap, b impl.Heap) bool {
	return a.Id == b.Id && a.Grade == b.Grade && a.Covered == b.Covered && slices.Equal(a.Layers, b.Layers)
}

func sameHeaps(a []impl.Heap, b []impl.Heap) bool { return slices.EqualFunc(a, b, sameHeap) }

// copied returns a list with Layers of its own.
func copied(list []impl.Heap) []impl.Heap {
	result := slices.Clone(list)
	for i := range result {
		result[i].Layers = append([]int{}, list[i].Layers...)
	}
	return result
}

// withLayers returns the list with other Layers at one place.
func withLayers(list []impl.Heap, i int, layers []int) []impl.Heap {
	result := copied(list)
	result[i].Layers = layers
	return result
}

// guardedHeaps returns the list as the start of a longer one, with all Layers one behind the other in
// one array, so that what is put behind some shows; and what checks that nothing changed.
func guardedHeaps(t *testing.T, list []impl.Heap) ([]impl.Heap, func()) {
	backing := slices.Clone(list)
	tons := []int{}
	for _, h := range list {
		tons = append(tons, h.Layers...)
	}
	tons = append(tons, 400, 1, math.MinInt)
	start := 0
	for i, h := range list {
		end := start + len(h.Layers)
		backing[i].Layers = tons[start:end]
		start = end
	}
	backing = append(backing, heap(99, 1, 500), covered(98, 5, 1, 2), impl.Heap{})
	before, tonsBefore := copied(backing), slices.Clone(tons)
	return backing[:len(list)], func() {
		t.Helper()
		if !sameHeaps(backing, before) || !slices.Equal(tons, tonsBefore) {
			t.Errorf("%v was changed to %v, %v to %v", before, backing, tonsBefore, tons)
		}
	}
}

// someOf returns the start of a list that may be long, for messages.
func someOf(list []impl.Heap) []impl.Heap { return list[:min(len(list), 12)] }

func wantHeaps(t *testing.T, call string, got []impl.Heap, ok bool, want []impl.Heap, wantOK bool) {
	t.Helper()
	if !sameHeaps(got, want) || ok != wantOK {
		t.Errorf("%s: got %v, %v, want %v, %v", call, got, ok, want, wantOK)
	}
}

func wantRain(t *testing.T, call string, got []impl.Heap, lost int, ok bool, want []impl.Heap, wantLost int, wantOK bool) {
	t.Helper()
	if !sameHeaps(got, want) || lost != wantLost || ok != wantOK {
		t.Errorf("%s: got %v, %d, %v, want %v, %d, %v", call, got, lost, ok, want, wantLost, wantOK)
	}
}

func wantStacks(t *testing.T, call string, got [][]int, ok bool, want [][]int, wantOK bool) {
	t.Helper()
	if !slices.EqualFunc(got, want, slices.Equal[[]int]) || ok != wantOK {
		t.Errorf("%s: got %v, %v, want %v, %v", call, got, ok, want, wantOK)
	}
}

// pile has each single ton of a Heap, from the ground up, as the number of its Layer.
type pile []int

func pileOf(layers []int) pile {
	p := pile{}
	for i, n := range layers {
		p = append(p, alike(n, i)...)
	}
	return p
}

func (p pile) layers() []int {
	layers := []int{}
	for _, i := range p {
		if i == len(layers) {
			layers = append(layers, 0)
		}
		layers[i]++
	}
	return layers
}

// rained takes single tons away while they are of the Layer that was the highest one.
func (p pile) rained(tons int) pile {
	left := p
	for ; tons > 0 && len(left) > 0 && left[len(left)-1] == p[len(p)-1]; tons-- {
		left = left[:len(left)-1]
	}
	return left
}

// canBear is the rule by which a layer can be put on a Heap.
func canBear(h impl.Heap, grade int, tons int) bool {
	if h.Covered || h.Grade != grade || tons < 1 || tons > greatestLayer || len(h.Layers) >= mostLayers {
		return false
	}
	for _, below := range h.Layers {
		if below < tons {
			return false
		}
	}
	return true
}

// idFor looks for a highest Layer of each number of tons, and then for an empty Heap.
func idFor(list []impl.Heap, grade int, tons int) (int, bool) {
	for top := tons; top <= greatestLayer; top++ {
		for _, h := range list {
			if n := len(h.Layers); n > 0 && h.Layers[n-1] == top && canBear(h, grade, tons) {
				return h.Id, true
			}
		}
	}
	for _, h := range list {
		if len(h.Layers) == 0 && canBear(h, grade, tons) {
			return h.Id, true
		}
	}
	return 0, false
}

// stackedBy looks for a highest Layer of each number of tons, one layer after the other.
func stackedBy(tons []int) [][]int {
	stacks := [][]int{}
	for _, n := range tons {
		place := -1
		for top := n; top <= greatestLayer && place < 0; top++ {
			place = slices.IndexFunc(stacks, func(s []int) bool { return len(s) < mostLayers && s[len(s)-1] == top })
		}
		if place < 0 {
			place = len(stacks)
			stacks = append(stacks, []int{})
		}
		stacks[place] = append(stacks[place], n)
	}
	return stacks
}

// coveredBy puts one sheet after the other on the Heap with the most tons.
func coveredBy(list []impl.Heap, sheets int) []impl.Heap {
	result := copied(list)
	for range sheets {
		most, place := 0, -1
		for i, h := range result {
			if n := len(pileOf(h.Layers)); !h.Covered && n > most {
				most, place = n, i
			}
		}
		if place >= 0 {
			result[place].Covered = true
		}
	}
	return result
}

// highestOf holds every Heap against all others.
func highestOf(list []impl.Heap) (int, bool) {
	for _, h := range list {
		highest := true
		for _, other := range list {
			a := []int{len(other.Layers), len(pileOf(other.Layers)), h.Id}
			b := []int{len(h.Layers), len(pileOf(h.Layers)), other.Id}
			highest = highest && slices.Compare(a, b) <= 0
		}
		if highest {
			return h.Id, true
		}
	}
	return 0, false
}

// layersOfNote are tons around each highest Layer and at the limits.
func layersOfNote(list []impl.Heap) []int {
	tons := []int{1, 2, greatestLayer - 1, greatestLayer}
	for _, h := range list {
		if n := len(h.Layers); n > 0 {
			tons = append(tons, max(h.Layers[n-1]-1, 1), h.Layers[n-1], min(h.Layers[n-1]+1, greatestLayer))
		}
	}
	slices.Sort(tons)
	return slices.Compact(tons)
}

// takingsOfNote are tons around each number of Layers from the highest one on, and at the limits.
func takingsOfNote(h impl.Heap) []int {
	tons := []int{1, 2, greatestTaking - 1, greatestTaking}
	sum := 0
	for _, n := range slices.Backward(h.Layers) {
		sum += n
		tons = append(tons, max(sum-n/2, 1), max(sum-1, 1), sum, min(sum+1, greatestTaking))
	}
	slices.Sort(tons)
	return slices.Compact(tons)
}

// checkPutLayer puts layers on a Heap and takes them again.
func checkPutLayer(t *testing.T, list []impl.Heap, i int) {
	t.Helper()
	h := list[i]
	for grade := 1; grade <= 4; grade++ {
		for _, tons := range layersOfNote(list) {
			call := fmt.Sprint("PutLayer ", list, h.Id, grade, tons)
			got, ok := impl.PutLayer(list, h.Id, grade, tons)
			if !canBear(h, grade, tons) {
				wantHeaps(t, call, got, ok, nil, false)
				continue
			}
			wantHeaps(t, call, got, ok, withLayers(list, i, slices.Concat(h.Layers, []int{tons})), true)
			if !impl.AreHeaps(got) {
				t.Error(call, "got no Heaps", got)
			}
			back, ok := impl.TakeTons(got, h.Id, tons)
			wantHeaps(t, call+" and back", back, ok, list, true)
		}
	}
}

// checkTaking holds what is left against single tons, and what is taken at once against what is taken ton
// by ton before.
func checkTaking(t *testing.T, list []impl.Heap, i int) {
	t.Helper()
	h, tower := list[i], pileOf(list[i].Layers)
	for _, tons := range takingsOfNote(h) {
		call := fmt.Sprint("TakeTons ", list, h.Id, tons)
		got, ok := impl.TakeTons(list, h.Id, tons)
		if tons > len(tower) {
			wantHeaps(t, call, got, ok, nil, false)
			continue
		}
		wantHeaps(t, call, got, ok, withLayers(list, i, tower[:len(tower)-tons].layers()), true)
		if !impl.AreHeaps(got) {
			t.Error(call, "got no Heaps", got)
		}
		if tons > 1 {
			part, _ := impl.TakeTons(list, h.Id, tons/2)
			whole, ok := impl.TakeTons(part, h.Id, tons-tons/2)
			wantHeaps(t, call+" in two parts", whole, ok, got, true)
		}
	}
	if n := len(h.Layers); n > 0 && !h.Covered {
		got, ok := impl.TakeTons(list, h.Id, h.Layers[n-1])
		wantHeaps(t, fmt.Sprint("the highest Layer of ", h), got, ok, withLayers(list, i, h.Layers[:n-1]), true)
		back, ok := impl.PutLayer(got, h.Id, h.Grade, h.Layers[n-1])
		wantHeaps(t, fmt.Sprint("the highest Layer of ", h, " and back"), back, ok, list, true)
	}
}

// checkGrades holds what is asked of a Grade against all Heaps.
func checkGrades(t *testing.T, list []impl.Heap, layers []int) {
	t.Helper()
	for grade := 1; grade <= 4; grade++ {
		sum := 0
		for _, h := range list {
			if h.Grade == grade {
				sum += len(pileOf(h.Layers))
			}
		}
		n, ok := impl.TonsOf(list, grade)
		wantInt(t, fmt.Sprint("TonsOf ", list, grade), n, ok, sum, true)
		for _, tons := range layers {
			want, found := idFor(list, grade, tons)
			id, ok := impl.HeapFor(list, grade, tons)
			wantInt(t, fmt.Sprint("HeapFor ", list, grade, tons), id, ok, want, found)
			put, ok := impl.PutLayer(list, id, grade, tons)
			if ok != found {
				t.Error("HeapFor", list, grade, tons, "got", id, "but PutLayer", put, ok)
			}
		}
	}
}

// checkRains holds all days of rain against single tons.
func checkRains(t *testing.T, list []impl.Heap) {
	t.Helper()
	for rain := 0; rain <= greatestRain; rain++ {
		want, wantLost := copied(list), 0
		for i, h := range list {
			if tower := pileOf(h.Layers); !h.Covered {
				left := tower.rained(rain / 10)
				want[i].Layers = left.layers()
				wantLost += len(tower) - len(left)
			}
		}
		got, lost, ok := impl.RainOn(list, rain)
		wantRain(t, fmt.Sprint("RainOn ", list, rain), got, lost, ok, want, wantLost, true)
		if !impl.AreHeaps(got) {
			t.Error("RainOn", list, rain, "got no Heaps", got)
		}
	}
}

// checkYard holds every function against a list.
func checkYard(t *testing.T, list []impl.Heap) {
	t.Helper()
	list, check := guardedHeaps(t, list)
	if !impl.AreHeaps(list) {
		t.Error("Heaps:", list)
	}
	for i, h := range list {
		if !impl.IsHeap(h) {
			t.Error("a Heap:", h)
		}
		checkPutLayer(t, list, i)
		checkTaking(t, list, i)
		checkHeapText(t, h)
	}
	checkGrades(t, list, layersOfNote(list))
	checkRains(t, list)
	for sheets := 0; sheets <= mostSheets; sheets++ {
		got, ok := impl.CoverHeaps(list, sheets)
		wantHeaps(t, fmt.Sprint("CoverHeaps ", list, sheets), got, ok, coveredBy(list, sheets), true)
	}
	want, found := highestOf(list)
	id, ok := impl.HighestHeap(list)
	wantInt(t, fmt.Sprint("HighestHeap ", list), id, ok, want, found)
	check()
}

// checkHeapText puts the text together from the end.
func checkHeapText(t *testing.T, h impl.Heap) {
	t.Helper()
	want := ""
	for _, tons := range slices.Backward(h.Layers) {
		want = fmt.Sprint("+", tons, want)
	}
	if want == "" {
		want = "+empty"
	}
	want = fmt.Sprintf("h%d g%d: %s", h.Id, h.Grade, want[1:])
	if h.Covered {
		want = strings.Join([]string{want, "covered"}, " ")
	}
	got, ok := impl.HeapText(h)
	wantString(t, fmt.Sprint("HeapText ", h), got, ok, want, true)
}

// expectNoPut wants the zero values of what is put on a Heap or taken from it.
func expectNoPut(t *testing.T, list []impl.Heap, id int, grade int, tons int) {
	t.Helper()
	got, ok := impl.PutLayer(list, id, grade, tons)
	wantHeaps(t, fmt.Sprint("PutLayer ", someOf(list), id, grade, tons), got, ok, nil, false)
}

func expectNoTaking(t *testing.T, list []impl.Heap, id int, tons int) {
	t.Helper()
	got, ok := impl.TakeTons(list, id, tons)
	wantHeaps(t, fmt.Sprint("TakeTons ", someOf(list), id, tons), got, ok, nil, false)
}

func expectNoHeapFor(t *testing.T, list []impl.Heap, grade int, tons int) {
	t.Helper()
	id, ok := impl.HeapFor(list, grade, tons)
	wantInt(t, fmt.Sprint("HeapFor ", someOf(list), grade, tons), id, ok, 0, false)
}

func expectNoTons(t *testing.T, list []impl.Heap, grade int) {
	t.Helper()
	n, ok := impl.TonsOf(list, grade)
	wantInt(t, fmt.Sprint("TonsOf ", someOf(list), grade), n, ok, 0, false)
}

func expectNoRain(t *testing.T, list []impl.Heap, rain int) {
	t.Helper()
	got, lost, ok := impl.RainOn(list, rain)
	wantRain(t, fmt.Sprint("RainOn ", someOf(list), rain), got, lost, ok, nil, 0, false)
}

func expectNoCover(t *testing.T, list []impl.Heap, sheets int) {
	t.Helper()
	got, ok := impl.CoverHeaps(list, sheets)
	wantHeaps(t, fmt.Sprint("CoverHeaps ", someOf(list), sheets), got, ok, nil, false)
}

func TestIsHeap(t *testing.T) {
	for _, id := range []int{1, 2, 98, 99} {
		for grade := 1; grade <= 4; grade++ {
			for n := 0; n <= mostLayers; n++ {
				for _, tons := range []int{1, 2, 499, 500} {
					if !impl.IsHeap(heap(id, grade, alike(n, tons)...)) || !impl.IsHeap(covered(id, grade, alike(n, tons)...)) {
						t.Error("a Heap:", id, grade, n, "layers of", tons)
					}
				}
			}
		}
	}
	for _, h := range noHeaps() {
		if impl.IsHeap(h) {
			t.Error("no Heap:", h)
		}
		got, ok := impl.HeapText(h)
		wantString(t, fmt.Sprint("HeapText ", h), got, ok, "", false)
	}
}

// TestIsHeapOfAllNumbers tries each number of a Heap apart from the others, and all pairs of Layers.
func TestIsHeapOfAllNumbers(t *testing.T) {
	for n := -1000; n <= 1000; n++ {
		for _, c := range []struct {
			h    impl.Heap
			want bool
		}{
			{heap(n, 1, 5), n >= 1 && n <= 99}, {heap(1, n, 5), n >= 1 && n <= 4}, {heap(1, 1, n), n >= 1 && n <= 500},
			{heap(1, 1, 500, n), n >= 1 && n <= 500}, {heap(1, 1, n, 1), n >= 1 && n <= 500}, {heap(1, 1, 300, n), n >= 1 && n <= 300}, {heap(1, 1, n, 300), n >= 300 && n <= 500},
			{heap(1, 1, append(alike(11, 300), n)...), n >= 1 && n <= 300}, {heap(1, 1, append([]int{n}, alike(11, 300)...)...), n >= 300 && n <= 500},
		} {
			if impl.IsHeap(c.h) != c.want || impl.AreHeaps(yard(c.h)) != c.want {
				t.Error(c.h, "is a Heap: not", c.want)
			}
		}
	}
	for n := 0; n <= 40; n++ {
		if want := n <= mostLayers; impl.IsHeap(heap(1, 1, alike(n, 9)...)) != want || impl.IsHeap(covered(1, 1, alike(n, 1)...)) != want {
			t.Error(n, "Layers are of a Heap: not", want)
		}
	}
}

func TestAreHeaps(t *testing.T) {
	for n := 0; n <= 14; n++ {
		want := n <= impl.MaxHeaps
		if impl.AreHeaps(rowOfHeaps(n, 1, 1)) != want || impl.AreHeaps(rowOfHeaps(n, 100-n, 4, 500, 1)) != want {
			t.Error(n, "are Heaps: not", want)
		}
	}
	for a := 1; a <= 99; a++ {
		for b := 1; b <= 99; b++ {
			if impl.AreHeaps(yard(heap(a, 1, 5), heap(b, 2))) != (a < b) {
				t.Error("the Ids", a, b, "ascend: not", a < b)
			}
		}
	}
	for _, list := range badYards() {
		list, check := guardedHeaps(t, list)
		if impl.AreHeaps(list) {
			t.Error("no Heaps:", list)
		}
		check()
	}
}

func TestYards(t *testing.T) {
	for _, list := range goodYards() {
		checkYard(t, list)
	}
}

// TestSmallYards has all Heaps of up to three Layers with up to three tons each, next to one another.
func TestSmallYards(t *testing.T) {
	small := [][]int{{}}
	for i := 0; i < len(small) && len(small[i]) < 3; i++ {
		for tons := 1; tons <= 3; tons++ {
			if n := len(small[i]); n == 0 || tons <= small[i][n-1] {
				small = append(small, append(slices.Clone(small[i]), tons))
			}
		}
	}
	for i, a := range small {
		for j, b := range small {
			checkYard(t, yard(heap(1, 2, a...), impl.Heap{Id: 7, Grade: 2, Layers: b, Covered: (i+j)%5 == 0}))
		}
	}
}

// TestLayersOfAllTons asks for a Heap for each layer, not only for some.
func TestLayersOfAllTons(t *testing.T) {
	layers := []int{}
	for tons := 1; tons <= greatestLayer; tons++ {
		layers = append(layers, tons)
	}
	for _, list := range handYards() {
		list, check := guardedHeaps(t, list)
		checkGrades(t, list, layers)
		check()
	}
}

// TestAllTakings takes each number of tons from a Heap.
func TestAllTakings(t *testing.T) {
	for _, h := range yard(heap(5, 3, 500, 400, 300, 1, 1), covered(5, 3, alike(12, 500)...), heap(5, 3, alike(12, 1)...), heap(5, 3)) {
		list, check := guardedHeaps(t, yard(heap(4, 3, 9), h, heap(6, 3, 9)))
		tower := pileOf(h.Layers)
		for tons := 1; tons <= greatestTaking; tons++ {
			if tons > len(tower) {
				expectNoTaking(t, list, 5, tons)
				continue
			}
			got, ok := impl.TakeTons(list, 5, tons)
			wantHeaps(t, fmt.Sprint("TakeTons ", list, tons), got, ok, withLayers(list, 1, tower[:len(tower)-tons].layers()), true)
		}
		check()
	}
}

func TestNoHeaps(t *testing.T) {
	for _, list := range badYards() {
		list, check := guardedHeaps(t, list)
		for grade := 0; grade <= 5; grade++ {
			expectNoTons(t, list, grade)
			for _, tons := range []int{0, 1, 2, 500, 501} {
				expectNoHeapFor(t, list, grade, tons)
				for _, h := range someOf(list) {
					expectNoPut(t, list, h.Id, grade, tons)
				}
				expectNoPut(t, list, 1, grade, tons)
			}
		}
		for _, tons := range []int{1, 5, 500, greatestTaking} {
			for _, h := range someOf(list) {
				expectNoTaking(t, list, h.Id, tons)
			}
			expectNoTaking(t, list, 1, tons)
		}
		for _, n := range []int{0, 1, 10, 20, 300} {
			expectNoRain(t, list, n)
			expectNoCover(t, list, n)
		}
		id, ok := impl.HighestHeap(list)
		wantInt(t, fmt.Sprint("HighestHeap ", someOf(list)), id, ok, 0, false)
		check()
	}
	for _, none := range [][]impl.Heap{nil, {}} {
		id, ok := impl.HighestHeap(none)
		wantInt(t, "HighestHeap of none", id, ok, 0, false)
	}
}

// TestNothingIsMended has lists that would be Heaps after the change.
func TestNothingIsMended(t *testing.T) {
	for _, list := range [][]impl.Heap{
		yard(heap(1, 1, 5, 6)), yard(heap(1, 1, 501)), yard(heap(1, 1, 5, 501)), yard(heap(1, 1, 5, 0)), yard(heap(1, 1, alike(13, 1)...)), yard(heap(1, 1, 5, 6), heap(2, 1, 9)),
	} {
		for _, tons := range []int{1, 2, 6, 496, 501} {
			expectNoTaking(t, list, 1, tons)
			expectNoPut(t, list, 1, 1, tons)
		}
		for _, rain := range []int{0, 10, 60, 300} {
			expectNoRain(t, list, rain)
		}
	}
}

func TestHeapsWithWrongNumbers(t *testing.T) {
	for _, list := range handYards() {
		list, check := guardedHeaps(t, list)
		for _, grade := range badGrades {
			expectNoTons(t, list, grade)
			for _, tons := range []int{1, 5, 500} {
				expectNoHeapFor(t, list, grade, tons)
				for _, h := range list {
					expectNoPut(t, list, h.Id, grade, tons)
				}
			}
		}
		for _, tons := range badLayers {
			for grade := 1; grade <= 4; grade++ {
				expectNoHeapFor(t, list, grade, tons)
				for _, h := range list {
					expectNoPut(t, list, h.Id, grade, tons)
				}
			}
		}
		for _, tons := range badTakings {
			for _, h := range list {
				expectNoTaking(t, list, h.Id, tons)
			}
		}
		for _, rain := range badRains {
			expectNoRain(t, list, rain)
		}
		for _, sheets := range badSheets {
			expectNoCover(t, list, sheets)
		}
		check()
	}
}

// TestHeapsThatAreNotThere asks for all Ids that a list does not have.
func TestHeapsThatAreNotThere(t *testing.T) {
	for _, list := range handYards() {
		list, check := guardedHeaps(t, list)
		ids := slices.Clone(badIds)
		for id := 1; id <= 99; id++ {
			if !slices.ContainsFunc(list, func(h impl.Heap) bool { return h.Id == id }) {
				ids = append(ids, id)
			}
		}
		for _, id := range ids {
			expectNoTaking(t, list, id, 1)
			for grade := 0; grade <= 5; grade++ {
				expectNoPut(t, list, id, grade, 1)
			}
		}
		check()
	}
}

func TestTonsOf(t *testing.T) {
	for _, c := range []struct {
		list []impl.Heap
		want []int
	}{
		{nil, []int{0, 0, 0, 0}}, {threeHeaps(), []int{240, 0, 0, 0}}, {yard(heap(1, 4), covered(2, 4)), []int{0, 0, 0, 0}}, {yard(covered(1, 4, 500, 1), heap(2, 2, 3), heap(3, 4, 7)), []int{0, 3, 0, 508}},
		{rowOfHeaps(10, 1, 3, alike(12, 500)...), []int{0, 0, 60000, 0}}, {yard(heap(1, 1, 1), heap(2, 2, 2), heap(3, 3, 3), heap(4, 4, 4)), []int{1, 2, 3, 4}},
	} {
		for i, want := range c.want {
			n, ok := impl.TonsOf(c.list, i+1)
			wantInt(t, fmt.Sprint("TonsOf ", c.list, i+1), n, ok, want, true)
		}
	}
}

func TestPutLayer(t *testing.T) {
	for _, c := range []struct {
		h           impl.Heap
		grade, tons int
		want        []int
	}{
		// As great as the layer below, greater by a ton, and less.
		{heap(3, 1, 100, 40), 1, 40, []int{100, 40, 40}}, {heap(3, 1, 100, 40), 1, 41, nil}, {heap(3, 1, 100, 40), 1, 39, []int{100, 40, 39}}, {heap(3, 1, 100, 40), 1, 1, []int{100, 40, 1}}, {heap(3, 1, 100, 40), 1, 100, nil},
		{heap(3, 1, 1), 1, 1, []int{1, 1}}, {heap(3, 1, 1), 1, 2, nil}, {heap(3, 1, 500), 1, 500, []int{500, 500}}, {heap(3, 1, 500), 1, 501, nil}, {heap(3, 1, 499), 1, 500, nil}, {heap(3, 1, 500), 1, 0, nil},
		// On an empty Heap.
		{heap(3, 2), 2, 1, []int{1}}, {heap(3, 2), 2, 500, []int{500}}, {heap(3, 2), 2, 501, nil}, {heap(3, 2), 2, 0, nil}, {heap(3, 2), 2, -1, nil}, {heap(3, 2), 1, 1, nil}, {heap(3, 2), 3, 1, nil}, {covered(3, 2), 2, 1, nil},
		// Up to 12 Layers.
		{heap(3, 4, alike(11, 9)...), 4, 9, alike(12, 9)}, {heap(3, 4, alike(11, 9)...), 4, 10, nil}, {heap(3, 4, alike(12, 9)...), 4, 9, nil}, {heap(3, 4, alike(12, 9)...), 4, 1, nil}, {heap(3, 4, alike(11, 500)...), 4, 1, append(alike(11, 500), 1)},
		// Covered, or of another Grade.
		{covered(3, 1, 100, 40), 1, 40, nil}, {covered(3, 1, 100, 40), 1, 1, nil}, {heap(3, 1, 100, 40), 2, 40, nil}, {heap(3, 4, 100), 3, 1, nil}, {heap(3, 4, 100), 0, 1, nil}, {heap(3, 4, 100), 5, 1, nil}, {heap(3, 4, 100), 4, 1, []int{100, 1}},
	} {
		list := yard(heap(1, c.grade, 500), c.h, heap(9, c.grade, 500))
		if !impl.AreHeaps(list) {
			list = yard(c.h)
		}
		i := slices.IndexFunc(list, func(h impl.Heap) bool { return h.Id == 3 })
		got, ok := impl.PutLayer(list, 3, c.grade, c.tons)
		call := fmt.Sprint("PutLayer ", list, c.grade, c.tons)
		if c.want == nil {
			wantHeaps(t, call, got, ok, nil, false)
			continue
		}
		wantHeaps(t, call, got, ok, withLayers(list, i, c.want), true)
		got, ok = impl.TakeTons(got, 3, c.tons)
		wantHeaps(t, call+" and back", got, ok, list, true)
	}
}

func TestHeapFor(t *testing.T) {
	ties := yard(heap(3, 1, 90, 40), heap(5, 1, 40), heap(9, 1, 39), heap(10, 2, 1), covered(11, 1, 1), heap(12, 1), heap(13, 1))
	full := yard(heap(2, 1, alike(12, 7)...), heap(4, 1, 100, 9), heap(6, 1, alike(11, 8)...), heap(8, 1, alike(12, 500)...))
	for _, c := range []struct {
		list        []impl.Heap
		grade, tons int
		want        int
	}{
		{threeHeaps(), 1, 30, 1}, {threeHeaps(), 1, 40, 1}, {threeHeaps(), 1, 41, 0}, {threeHeaps(), 2, 500, 4}, {threeHeaps(), 2, 1, 4}, {threeHeaps(), 3, 1, 0}, {threeHeaps(), 2, 501, 0}, {threeHeaps(), 2, 0, 0},
		// The fewest tons, the smallest Id of two, and an empty Heap only if there is no other one.
		{ties, 1, 1, 9}, {ties, 1, 39, 9}, {ties, 1, 40, 3}, {ties, 1, 41, 12}, {ties, 1, 500, 12}, {ties, 2, 1, 10}, {ties, 2, 2, 0}, {ties[3:], 1, 1, 12}, {ties[6:], 1, 1, 13}, {ties[1:], 1, 40, 5},
		{yard(heap(1, 1), heap(2, 1, 500)), 1, 500, 2}, {yard(heap(1, 1), heap(2, 1, 500)), 1, 1, 2}, {yard(heap(1, 1), heap(2, 1, 499)), 1, 500, 1}, {yard(heap(1, 1), heap(2, 1, 499)), 1, 499, 2}, {yard(covered(1, 1), heap(2, 1)), 1, 1, 2}, {yard(covered(1, 1)), 1, 1, 0},
		// Full Heaps and Covered ones have no room.
		{full, 1, 7, 6}, {full, 1, 8, 6}, {full, 1, 9, 4}, {full, 1, 10, 0}, {full[:1], 1, 1, 0}, {full[3:], 1, 500, 0}, {yard(covered(1, 1, 50), heap(2, 1, 60)), 1, 40, 2}, {yard(covered(1, 1, 50)), 1, 40, 0}, {nil, 1, 1, 0}, {nil, 4, 500, 0},
		{rowOfHeaps(10, 90, 4, 5), 4, 5, 90}, {rowOfHeaps(10, 90, 4, 5), 4, 6, 0}, {rowOfHeaps(10, 90, 4), 4, 500, 90}, {rowOfHeaps(10, 90, 4), 1, 500, 0},
	} {
		got, ok := impl.HeapFor(c.list, c.grade, c.tons)
		wantInt(t, fmt.Sprint("HeapFor ", c.list, c.grade, c.tons), got, ok, c.want, c.want > 0)
	}
}

func TestTakeTons(t *testing.T) {
	for _, c := range []struct {
		layers []int
		tons   int
		want   []int
		ok     bool
	}{
		// A part of the highest Layer, just all of it, and more than one.
		{[]int{100, 40}, 1, []int{100, 39}, true}, {[]int{100, 40}, 39, []int{100, 1}, true}, {[]int{100, 40}, 40, []int{100}, true}, {[]int{100, 40}, 41, []int{99}, true}, {[]int{100, 40}, 60, []int{80}, true}, {[]int{100, 40, 40}, 80, []int{100}, true}, {[]int{100, 40, 40}, 79, []int{100, 1}, true},
		// All that the Heap has, and more.
		{[]int{100, 40}, 139, []int{1}, true}, {[]int{100, 40}, 140, nil, true}, {[]int{100, 40}, 141, nil, false}, {[]int{100, 40}, 6000, nil, false}, {[]int{1}, 1, nil, true}, {[]int{1}, 2, nil, false}, {[]int{500}, 500, nil, true}, {[]int{500}, 501, nil, false}, {[]int{500}, 499, []int{1}, true},
		{alike(12, 500), 6000, nil, true}, {alike(12, 500), 5999, []int{1}, true}, {alike(12, 500), 6001, nil, false}, {alike(12, 500), 5500, []int{500}, true}, {alike(12, 500), 1, append(alike(11, 500), 499), true}, {append(alike(11, 500), 499), 6000, nil, false}, {append(alike(11, 500), 499), 5999, nil, true},
		{alike(12, 1), 12, nil, true}, {alike(12, 1), 13, nil, false}, {alike(12, 1), 11, []int{1}, true}, {alike(12, 1), 1, alike(11, 1), true},
		// Nothing is there, or nothing is wanted.
		{nil, 1, nil, false}, {nil, 6000, nil, false}, {nil, 0, nil, false}, {[]int{100, 40}, 0, nil, false}, {[]int{100, 40}, -1, nil, false}, {[]int{100, 40}, math.MinInt, nil, false}, {[]int{100, 40}, math.MaxInt, nil, false},
	} {
		for _, h := range yard(heap(3, 2, c.layers...), covered(3, 2, c.layers...)) {
			list := yard(heap(1, 2, 500), h, heap(9, 2, 500))
			call := fmt.Sprint("TakeTons ", list, c.tons)
			got, ok := impl.TakeTons(list, 3, c.tons)
			if !c.ok {
				wantHeaps(t, call, got, ok, nil, false)
				continue
			}
			wantHeaps(t, call, got, ok, withLayers(list, 1, c.want), true)
		}
	}
}

func TestRainOn(t *testing.T) {
	one := yard(heap(1, 1, 9, 1), heap(2, 1, 9, 3), covered(3, 1, 9, 3), heap(4, 1), heap(5, 1, 2))
	for _, c := range []struct {
		list []impl.Heap
		rain int
		want []impl.Heap
		lost int
	}{
		{threeHeaps(), 35, yard(heap(1, 1, 100, 37), covered(2, 1, 50, 50), heap(4, 2)), 3}, {nil, 0, nil, 0}, {nil, 300, nil, 0}, {one, 0, one, 0}, {one, 1, one, 0}, {one, 9, one, 0},
		{one, 10, yard(heap(1, 1, 9), heap(2, 1, 9, 2), covered(3, 1, 9, 3), heap(4, 1), heap(5, 1, 1)), 3}, {one, 19, yard(heap(1, 1, 9), heap(2, 1, 9, 2), covered(3, 1, 9, 3), heap(4, 1), heap(5, 1, 1)), 3},
		{one, 20, yard(heap(1, 1, 9), heap(2, 1, 9, 1), covered(3, 1, 9, 3), heap(4, 1), heap(5, 1)), 5}, {one, 29, yard(heap(1, 1, 9), heap(2, 1, 9, 1), covered(3, 1, 9, 3), heap(4, 1), heap(5, 1)), 5},
		// No more than the highest Layer is lost.
		{one, 30, yard(heap(1, 1, 9), heap(2, 1, 9), covered(3, 1, 9, 3), heap(4, 1), heap(5, 1)), 6}, {one, 300, yard(heap(1, 1, 9), heap(2, 1, 9), covered(3, 1, 9, 3), heap(4, 1), heap(5, 1)), 6},
		{yard(heap(1, 1, 31, 30), heap(2, 1, 31), heap(3, 1, 30), heap(4, 1, 29)), 300, yard(heap(1, 1, 31), heap(2, 1, 1), heap(3, 1), heap(4, 1)), 119}, {yard(heap(1, 1, 31, 30), heap(2, 1, 31), heap(3, 1, 30), heap(4, 1, 29)), 299, yard(heap(1, 1, 31, 1), heap(2, 1, 2), heap(3, 1, 1), heap(4, 1)), 116},
		{rowOfHeaps(10, 1, 1, alike(12, 500)...), 300, rowOfHeaps(10, 1, 1, append(alike(11, 500), 470)...), 300}, {rowOfHeaps(10, 1, 1, 5, 5), 300, rowOfHeaps(10, 1, 1, 5), 50}, {rowOfHeaps(10, 1, 1), 300, rowOfHeaps(10, 1, 1), 0}, {yard(covered(1, 1), covered(2, 2, 1)), 300, yard(covered(1, 1), covered(2, 2, 1)), 0},
	} {
		got, lost, ok := impl.RainOn(c.list, c.rain)
		wantRain(t, fmt.Sprint("RainOn ", c.list, c.rain), got, lost, ok, c.want, c.lost, true)
	}
}

func TestCoverHeaps(t *testing.T) {
	for _, c := range []struct {
		list []impl.Heap
		// order has the Ids in the order in which they are covered.
		order []int
	}{
		{nil, nil}, {threeHeaps(), []int{1}}, {yard(heap(1, 1)), nil}, {yard(covered(1, 1, 5)), nil}, {yard(heap(1, 1, 5)), []int{1}}, {rowOfHeaps(10, 1, 1), nil}, {rowOfHeaps(10, 1, 1, 7), []int{1, 2, 3, 4, 5, 6, 7, 8, 9, 10}},
		// The most tons, not the most Layers nor the highest Layer; equal ones by their Ids.
		{yard(heap(3, 1, 60, 40), heap(5, 1, 50, 50, 1), heap(9, 1, 100), heap(10, 2, 102), covered(11, 2, 500)), []int{10, 5, 3, 9}}, {yard(heap(1, 1, 5), heap(2, 2), heap(3, 3, 5), covered(4, 4, 9), heap(5, 4, 6), heap(6, 4, 5)), []int{5, 1, 3, 6}},
		{yard(heap(2, 1, 10), heap(3, 1, 9, 1), heap(4, 1, 5, 5), heap(7, 1, 11), heap(8, 1, 4, 3, 3)), []int{7, 2, 3, 4, 8}}, {yard(heap(2, 1, 1), heap(3, 1, 2), heap(4, 1, 3), heap(7, 1, 4)), []int{7, 4, 3, 2}}, {yard(heap(2, 1, 4), heap(3, 1, 3), heap(4, 1, 2), heap(7, 1, 1)), []int{2, 3, 4, 7}},
	} {
		for sheets := 0; sheets <= mostSheets; sheets++ {
			want := copied(c.list)
			for i, h := range want {
				want[i].Covered = h.Covered || slices.Contains(c.order[:min(sheets, len(c.order))], h.Id)
			}
			got, ok := impl.CoverHeaps(c.list, sheets)
			wantHeaps(t, fmt.Sprint("CoverHeaps ", c.list, sheets), got, ok, want, true)
		}
	}
}

func TestHighestHeap(t *testing.T) {
	for _, c := range []struct {
		list []impl.Heap
		want int
	}{
		{threeHeaps(), 1}, {yard(heap(7, 1)), 7}, {rowOfHeaps(10, 90, 1), 90}, {rowOfHeaps(10, 1, 1, 5), 1}, {yard(heap(1, 1), covered(2, 1, 1)), 2}, {yard(heap(1, 1, 500, 500), heap(2, 1, 1, 1, 1)), 2}, {yard(heap(1, 1, 1, 1, 1), heap(2, 1, 500, 500)), 1},
		// The most Layers, then the most tons, then the smallest Id.
		{yard(heap(1, 1, 9, 1), heap(2, 1, 8, 3), heap(3, 1, 11)), 2}, {yard(heap(1, 1, 8, 3), heap(2, 1, 9, 1), heap(3, 1, 11)), 1}, {yard(heap(1, 1, 9, 1), heap(2, 1, 8, 2), heap(3, 1, 5, 5)), 1}, {yard(heap(1, 1), heap(2, 1, 9, 1), covered(3, 4, 5, 5)), 2},
		{yard(heap(1, 1, 5, 4), heap(2, 1, 5, 5), heap(3, 1, 6, 4), heap(4, 1, 6, 3)), 2}, {append(rowOfHeaps(9, 1, 1, alike(12, 500)...), covered(99, 1, alike(12, 500)...)), 1}, {append(rowOfHeaps(9, 1, 1, alike(11, 500)...), covered(99, 1, alike(12, 1)...)), 99},
	} {
		got, ok := impl.HighestHeap(c.list)
		wantInt(t, fmt.Sprint("HighestHeap ", c.list), got, ok, c.want, true)
	}
}

func TestHeapText(t *testing.T) {
	for _, c := range []struct {
		h    impl.Heap
		want string
	}{
		{covered(2, 1, 50, 50), "h2 g1: 50+50 covered"}, {heap(4, 2), "h4 g2: empty"}, {covered(99, 4), "h99 g4: empty covered"}, {impl.Heap{Id: 1, Grade: 1, Layers: []int{}}, "h1 g1: empty"}, {heap(1, 1, 1), "h1 g1: 1"},
		{covered(10, 3, 500), "h10 g3: 500 covered"}, {heap(99, 4, 500, 20, 1), "h99 g4: 500+20+1"}, {heap(5, 2, 12, 11, 10, 9, 8, 7, 6, 5, 4, 3, 2, 1), "h5 g2: 12+11+10+9+8+7+6+5+4+3+2+1"},
		{covered(99, 4, alike(12, 500)...), "h99 g4: 500+500+500+500+500+500+500+500+500+500+500+500 covered"},
	} {
		got, ok := impl.HeapText(c.h)
		wantString(t, fmt.Sprint("HeapText ", c.h), got, ok, c.want, true)
	}
}

// upTo returns the layers from 1 ton to n, each greater than the one before.
func upTo(n int) []int {
	tons := []int{}
	for i := range n {
		tons = append(tons, i+1)
	}
	return tons
}

func TestStackLayers(t *testing.T) {
	downTo := upTo(20)
	slices.Reverse(downTo)
	alone := [][]int{}
	for _, n := range upTo(20) {
		alone = append(alone, []int{n})
	}
	for _, c := range []struct {
		tons []int
		want [][]int
	}{
		{nil, nil}, {[]int{}, nil}, {[]int{1}, [][]int{{1}}}, {[]int{500}, [][]int{{500}}}, {[]int{5, 7, 5, 3}, [][]int{{5, 5, 3}, {7}}},
		// All on one Heap, and each one on a new Heap.
		{[]int{9, 9, 8, 1, 1}, [][]int{{9, 9, 8, 1, 1}}}, {downTo[:12], [][]int{downTo[:12]}}, {downTo[:13], [][]int{downTo[:12], {8}}}, {downTo, [][]int{downTo[:12], downTo[12:]}}, {upTo(5), alone[:5]}, {upTo(10), alone[:10]}, {upTo(11), alone[:11]}, {upTo(20), alone}, {[]int{499, 500}, [][]int{{499}, {500}}},
		// Full Heaps get no more, also if their highest Layer has the fewest tons.
		{alike(12, 7), [][]int{alike(12, 7)}}, {alike(13, 7), [][]int{alike(12, 7), {7}}}, {alike(20, 500), [][]int{alike(12, 500), alike(8, 500)}}, {append(alike(12, 7), 9, 3, 8, 4), [][]int{alike(12, 7), {9, 3}, {8, 4}}}, {append([]int{9}, append(alike(11, 7), 8, 7, 7, 9)...), [][]int{append([]int{9}, alike(11, 7)...), {8, 7, 7}, {9}}},
		// The fewest tons that are enough, and the first one of several.
		{[]int{5, 9, 7, 6, 5, 1}, [][]int{{5, 5, 1}, {9, 7, 6}}}, {[]int{5, 6, 5, 6, 6}, [][]int{{5, 5}, {6, 6, 6}}}, {[]int{3, 7, 3, 4, 3, 3}, [][]int{{3, 3, 3, 3}, {7, 4}}}, {[]int{1, 2, 3, 2, 1, 3}, [][]int{{1, 1}, {2, 2}, {3, 3}}}, {[]int{8, 9, 8, 8, 8, 2, 2}, [][]int{{8, 8, 8, 8, 2, 2}, {9}}},
		{[]int{6, 8, 6, 7, 6, 6, 5}, [][]int{{6, 6, 6, 6, 5}, {8, 7}}}, {[]int{2, 3, 1, 3, 2, 2, 1}, [][]int{{2, 1, 1}, {3, 3, 2, 2}}}, {[]int{4, 5, 3, 4, 4, 3, 2}, [][]int{{4, 3, 3, 2}, {5, 4, 4}}},
	} {
		got, ok := impl.StackLayers(c.tons)
		wantStacks(t, fmt.Sprint("StackLayers ", c.tons), got, ok, c.want, true)
		wantStacks(t, fmt.Sprint("the test's own rule for ", c.tons), stackedBy(c.tons), true, c.want, true)
	}
}

func TestStackLayersRejects(t *testing.T) {
	lists := [][]int{alike(21, 1), alike(21, 500), alike(22, 7), alike(1000, 7), upTo(21), alike(20, 501), alike(20, 0), alike(21, 0)}
	for _, bad := range badLayers {
		lists = append(lists, []int{bad}, []int{bad, 5}, []int{5, bad}, []int{5, bad, 4}, append(alike(19, 5), bad), append(alike(12, 5), bad), append([]int{bad}, alike(19, 5)...))
	}
	for _, tons := range lists {
		got, ok := impl.StackLayers(tons)
		wantStacks(t, fmt.Sprint("StackLayers ", tons), got, ok, nil, false)
	}
}

// TestStacks has all short lists of few different layers, and longer ones made by chance.
func TestStacks(t *testing.T) {
	lists := [][]int{{}}
	for i := 0; i < len(lists) && len(lists[i]) < 6; i++ {
		for tons := 1; tons <= 4; tons++ {
			lists = append(lists, append(slices.Clone(lists[i]), tons))
		}
	}
	r := rand.New(rand.NewPCG(7, 21))
	for range 3000 {
		tons := []int{}
		greatest := []int{1, 2, 3, 5, 20, greatestLayer}[r.IntN(6)]
		for range r.IntN(21) {
			tons = append(tons, 1+r.IntN(greatest))
		}
		lists = append(lists, tons)
	}
	for _, tons := range lists {
		backing := append(slices.Clone(tons), 77, -1)
		before := slices.Clone(backing)
		got, ok := impl.StackLayers(backing[:len(tons)])
		wantStacks(t, fmt.Sprint("StackLayers ", tons), got, ok, stackedBy(tons), true)
		for i, layers := range got {
			if !impl.IsHeap(heap(1+i, 1, layers...)) {
				t.Error("StackLayers", tons, "got no Layers of a Heap", layers)
			}
		}
		if !slices.Equal(backing, before) {
			t.Fatalf("%v was changed to %v", before, backing)
		}
	}
}

// scribble writes over all of some Layers, also behind their end.
func scribble(layers []int) {
	for i := range layers[:cap(layers)] {
		layers[:cap(layers)][i] = -77
	}
}

// expectApart writes into a result, the one Heap after the other, and then into the argument.
func expectApart(t *testing.T, call string, list []impl.Heap, change func(list []impl.Heap) []impl.Heap) {
	t.Helper()
	argument := copied(list)
	got, again := change(argument), change(argument)
	want := copied(got)
	if len(got) != len(list) {
		t.Error(call, list, "got", got)
	}
	for i := range got {
		scribble(got[i].Layers)
		if !sameHeaps(got[i+1:], want[i+1:]) {
			t.Error(call, list, "got Heaps that share memory with that of the place", i)
		}
	}
	clear(got[:cap(got)])
	if !sameHeaps(argument, list) || !sameHeaps(again, want) {
		t.Error(call, list, "got what shares memory with the argument or with another result")
	}
	for i := range argument {
		scribble(argument[i].Layers)
	}
	clear(argument)
	if !sameHeaps(again, want) {
		t.Error(call, list, "got what changes with the argument")
	}
}

func TestHeapResultsAreApart(t *testing.T) {
	for _, list := range goodYards() {
		for _, sheets := range []int{0, 1, 20} {
			expectApart(t, "CoverHeaps", list, func(l []impl.Heap) []impl.Heap { got, _ := impl.CoverHeaps(l, sheets); return got })
		}
		for _, rain := range []int{0, 9, 10, 300} {
			expectApart(t, "RainOn", list, func(l []impl.Heap) []impl.Heap { got, _, _ := impl.RainOn(l, rain); return got })
		}
		for _, h := range list {
			if len(h.Layers) > 0 {
				for _, tons := range []int{1, h.Layers[0], len(pileOf(h.Layers))} {
					expectApart(t, "TakeTons", list, func(l []impl.Heap) []impl.Heap { got, _ := impl.TakeTons(l, h.Id, tons); return got })
				}
			}
			if canBear(h, h.Grade, 1) {
				expectApart(t, "PutLayer", list, func(l []impl.Heap) []impl.Heap { got, _ := impl.PutLayer(l, h.Id, h.Grade, 1); return got })
			}
		}
	}
}

// TestHeapsOfTheSameLayers has arguments that share memory with each other.
func TestHeapsOfTheSameLayers(t *testing.T) {
	shared := []int{30, 20, 10}
	list := yard(heap(1, 1, shared...), heap(2, 1, shared[:2]...), heap(3, 1, shared[:1]...), heap(4, 1, shared[1:]...), heap(5, 1, shared[:0]...))
	want := copied(list)
	put, ok := impl.PutLayer(list, 2, 1, 15)
	wantHeaps(t, "PutLayer", put, ok, withLayers(want, 1, []int{30, 20, 15}), true)
	taken, ok := impl.TakeTons(list, 1, 25)
	wantHeaps(t, "TakeTons", taken, ok, withLayers(want, 0, []int{30, 5}), true)
	rained, lost, ok := impl.RainOn(list, 50)
	wantRain(t, "RainOn", rained, lost, ok, yard(heap(1, 1, 30, 20, 5), heap(2, 1, 30, 15), heap(3, 1, 25), heap(4, 1, 20, 5), heap(5, 1)), 20, true)
	hidden, ok := impl.CoverHeaps(list, 20)
	wantHeaps(t, "CoverHeaps", hidden, ok, yard(covered(1, 1, 30, 20, 10), covered(2, 1, 30, 20), covered(3, 1, 30), covered(4, 1, 20, 10), heap(5, 1)), true)
	for _, got := range [][]impl.Heap{put, taken, rained, hidden} {
		for i := range got {
			rest := copied(got[i+1:])
			scribble(got[i].Layers)
			if !sameHeaps(got[i+1:], rest) || !sameHeaps(list, want) {
				t.Error("a result shares memory", got, list)
			}
		}
	}
}

func TestStacksAreApart(t *testing.T) {
	for _, tons := range [][]int{{5}, {5, 7, 5, 3}, upTo(20), alike(20, 7), append(upTo(10), upTo(10)...)} {
		argument := slices.Clone(tons)
		got, ok := impl.StackLayers(argument)
		want := stackedBy(tons)
		for i := range got {
			wantStacks(t, fmt.Sprint("StackLayers ", tons, " from ", i), got[i:], ok, want[i:], true)
			scribble(got[i])
		}
		if !slices.Equal(argument, tons) {
			t.Error("a result shares memory with its argument", argument)
		}
		again, ok := impl.StackLayers(argument)
		scribble(argument)
		wantStacks(t, fmt.Sprint("StackLayers again ", tons), again, ok, want, true)
	}
}
