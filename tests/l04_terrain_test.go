package tests

import (
	"math"
	"math/big"
	"math/rand"
	"slices"
	"strings"
	"testing"

	"loop.example/g00925/impl"
)

// four is the terrain of the document's example.
func four() impl.Terrain {
	return impl.Terrain{Step: 10, Width: 2, Height: 2, Heights: []int64{0, 10, 20, 31}, Clutter: []int64{0, 1, 2, 3}}
}

// rough returns a terrain with heights up to a limit and all classes, the same one for equal arguments.
func rough(step, width, height, limit int64) impl.Terrain {
	source := rand.New(rand.NewSource(step + 100*width + 10000*height))
	t := impl.Terrain{Step: step, Width: width, Height: height}
	for range width * height {
		t.Heights = append(t.Heights, source.Int63n(limit+1))
		t.Clutter = append(t.Clutter, source.Int63n(8))
	}
	return t
}

// terrains returns valid terrains of many shapes, those at the limits among them.
func terrains() []impl.Terrain {
	return []impl.Terrain{
		four(), rough(1, 2, 2, 5), rough(1, 24, 24, 90000), rough(7, 3, 5, 90000), rough(10, 5, 3, 40), rough(100, 24, 2, 3000),
		rough(8695, 24, 24, 90000), rough(10000, 21, 2, 90000), rough(10000, 2, 21, 90000), rough(10000, 21, 21, 90000), rough(33, 4, 4, 0),
	}
}

// badTerrains are not valid, each for one reason.
func badTerrains() []impl.Terrain {
	bad := []impl.Terrain{{}, rough(10000, 22, 2, 7), rough(10000, 2, 22, 7), rough(8696, 24, 2, 7), rough(8696, 2, 24, 7), rough(10, 1, 3, 7), rough(10, 3, 1, 7), rough(10, 25, 2, 7), rough(10, 2, 25, 7), rough(10, 3, 0, 7)}
	change := func(spoil func(t *impl.Terrain)) {
		t := rough(10, 3, 4, 50)
		spoil(&t)
		bad = append(bad, t)
	}
	for _, v := range []int64{0, -1, 10001, math.MinInt64, math.MaxInt64} {
		change(func(t *impl.Terrain) { t.Step = v })
		change(func(t *impl.Terrain) { t.Width = v })
		change(func(t *impl.Terrain) { t.Height = v })
	}
	for _, v := range []int64{-1, 90001, math.MinInt64, math.MaxInt64} {
		change(func(t *impl.Terrain) { t.Heights[0] = v })
		change(func(t *impl.Terrain) { t.Heights[11] = v })
	}
	for _, v := range []int64{-1, 8, math.MinInt64, math.MaxInt64} {
		change(func(t *impl.Terrain) { t.Clutter[0] = v })
		change(func(t *impl.Terrain) { t.Clutter[11] = v })
	}
	change(func(t *impl.Terrain) { t.Heights = t.Heights[:11] })
	change(func(t *impl.Terrain) { t.Clutter = t.Clutter[:11] })
	change(func(t *impl.Terrain) { t.Heights = append(t.Heights, 0) })
	change(func(t *impl.Terrain) { t.Clutter = append(t.Clutter, 0) })
	change(func(t *impl.Terrain) { t.Heights, t.Clutter = nil, nil })
	change(func(t *impl.Terrain) { t.Heights = nil })
	change(func(t *impl.Terrain) { t.Clutter = nil })
	change(func(t *impl.Terrain) { t.Width, t.Height = 1<<32, 1<<32 })
	return bad
}

// inside returns points of a terrain: the grid points of two columns and rows, the edges, and others between.
func inside(g impl.Terrain, count int) []impl.Point {
	source := rand.New(rand.NewSource(5))
	right, top := (g.Width-1)*g.Step, (g.Height-1)*g.Step
	list := []impl.Point{{}, {X: right}, {Y: top}, {X: right, Y: top}, {X: right - 1, Y: top}, {X: right, Y: top - 1}, {X: right / 2, Y: top}, {X: right, Y: top / 2}, {X: g.Step, Y: g.Step}, {X: right - g.Step, Y: top - g.Step}}
	for len(list) < count {
		list = append(list, point(source.Int63n(right+1), source.Int63n(top+1)))
	}
	return list
}

// outside returns points that are not in a terrain.
func outside(g impl.Terrain) []impl.Point {
	right, top := (g.Width-1)*g.Step, (g.Height-1)*g.Step
	return append([]impl.Point{{X: right + 1}, {Y: top + 1}, {X: right + 1, Y: top + 1}, {X: -1, Y: top}, {X: right, Y: -1}}, badPoints...)
}

func TestPromise5ValidTerrains(t *testing.T) {
	for _, g := range terrains() {
		expect(t, "ValidTerrain", impl.ValidTerrain(g), true)
	}
	for i, g := range badTerrains() {
		if impl.ValidTerrain(g) {
			t.Errorf("the bad terrain %d is valid", i)
		}
	}
	high := impl.Terrain{Step: 10000, Width: 2, Height: 2, Heights: []int64{90000, 0, 0, 90000}, Clutter: []int64{7, 0, 0, 7}}
	expect(t, "ValidTerrain at the limits", impl.ValidTerrain(high), true)
}

func TestPromise5SameTerrains(t *testing.T) {
	list := append(terrains(), badTerrains()...)
	for i, a := range list {
		copied := impl.Terrain{Step: a.Step, Width: a.Width, Height: a.Height, Heights: slices.Clone(a.Heights), Clutter: slices.Clone(a.Clutter)}
		expect(t, "SameTerrain of a copy", impl.SameTerrain(a, copied), true)
		for k, b := range list {
			if impl.SameTerrain(a, b) != (i == k) {
				t.Errorf("SameTerrain of the terrains %d and %d", i, k)
			}
		}
	}
	expect(t, "SameTerrain of nil and empty lists", impl.SameTerrain(impl.Terrain{}, impl.Terrain{Heights: []int64{}, Clutter: []int64{}}), true)
}

func TestPromise5FlatTerrains(t *testing.T) {
	for _, c := range []struct{ step, width, height, h, code int64 }{
		{100, 3, 2, 7, impl.OK}, {1, 2, 2, 0, impl.OK}, {8695, 24, 24, 90000, impl.OK}, {10000, 21, 21, 5, impl.OK}, {10000, 2, 21, 5, impl.OK},
		{10000, 22, 2, 7, impl.ErrRange}, {10000, 2, 22, 7, impl.ErrRange}, {0, 2, 2, 0, impl.ErrRange}, {-5, 2, 2, 0, impl.ErrRange}, {10001, 2, 2, 0, impl.ErrRange},
		{5, 1, 2, 0, impl.ErrRange}, {5, 2, 1, 0, impl.ErrRange}, {5, 25, 2, 0, impl.ErrRange}, {5, 2, 25, 0, impl.ErrRange}, {5, 2, 2, -1, impl.ErrRange}, {5, 2, 2, 90001, impl.ErrRange},
		{5, 1 << 32, 1 << 32, 0, impl.ErrRange}, {5, math.MaxInt64, math.MinInt64, 0, impl.ErrRange}, {math.MaxInt64, 24, 24, 0, impl.ErrRange},
	} {
		g, code := impl.FlatTerrain(c.step, c.width, c.height, c.h)
		want := impl.Terrain{}
		if c.code == impl.OK {
			want = impl.Terrain{Step: c.step, Width: c.width, Height: c.height, Heights: slices.Repeat([]int64{c.h}, int(c.width*c.height)), Clutter: zeros(int(c.width * c.height))}
		}
		if code != c.code || !impl.SameTerrain(g, want) || impl.ValidTerrain(g) != (code == impl.OK) {
			t.Errorf("FlatTerrain of %v: %v, %d", c, g, code)
		}
	}
}

func TestPromise5GroundIsSet(t *testing.T) {
	for _, g := range terrains() {
		for x := range g.Width {
			for y := range g.Height {
				want := impl.Terrain{Step: g.Step, Width: g.Width, Height: g.Height, Heights: slices.Clone(g.Heights), Clutter: slices.Clone(g.Clutter)}
				want.Heights[y*g.Width+x], want.Clutter[y*g.Width+x] = 90000, 7
				if got, code := impl.SetGround(g, x, y, 90000, 7); code != impl.OK || !impl.SameTerrain(got, want) {
					t.Errorf("SetGround at %d, %d: %v, %d", x, y, got, code)
				}
			}
		}
		for _, c := range [][4]int64{{-1, 0, 0, 0}, {0, -1, 0, 0}, {g.Width, 0, 0, 0}, {0, g.Height, 0, 0}, {0, 0, -1, 0}, {0, 0, 90001, 0}, {0, 0, 0, -1}, {0, 0, 0, 8},
			{math.MinInt64, 0, 0, 0}, {0, math.MaxInt64, 0, 0}, {math.MaxInt64, math.MinInt64, 0, 0}, {0, 0, math.MaxInt64, 0}, {0, 0, 0, math.MinInt64}} {
			got, code := impl.SetGround(g, c[0], c[1], c[2], c[3])
			expect(t, "SetGround out of range", []any{got, code}, []any{impl.Terrain{}, impl.ErrRange})
		}
	}
	for _, g := range badTerrains() {
		got, code := impl.SetGround(g, -1, 0, 0, 0)
		expect(t, "SetGround of a bad terrain", []any{got, code}, []any{impl.Terrain{}, impl.ErrInvalid})
	}
}

func TestPromise5PartsOfTerrains(t *testing.T) {
	g := rough(10, 5, 4, 90000)
	for x := int64(-2); x <= 6; x++ {
		for y := int64(-2); y <= 6; y++ {
			for width := int64(-1); width <= 6; width++ {
				for height := int64(-1); height <= 6; height++ {
					expectCrop(t, g, x, y, width, height)
				}
			}
		}
	}
	for _, c := range [][4]int64{{0, 0, 25, 2}, {0, 0, 2, 25}, {math.MaxInt64, 0, 2, 2}, {0, math.MaxInt64, 2, 2}, {math.MinInt64, 0, 2, 2}, {0, 0, math.MaxInt64, 2}, {0, 0, 2, math.MinInt64}, {math.MinInt64, 0, math.MinInt64, 2}, {math.MaxInt64, math.MaxInt64, math.MaxInt64, math.MaxInt64}} {
		got, code := impl.CropTerrain(g, c[0], c[1], c[2], c[3])
		expect(t, "CropTerrain out of range", []any{got, code}, []any{impl.Terrain{}, impl.ErrRange})
	}
	for _, g := range terrains() {
		whole, code := impl.CropTerrain(g, 0, 0, g.Width, g.Height)
		expect(t, "CropTerrain of the whole", []any{impl.SameTerrain(whole, g), code}, "[true 0]")
	}
	for _, g := range badTerrains() {
		got, code := impl.CropTerrain(g, 0, 0, 1, 99)
		expect(t, "CropTerrain of a bad terrain", []any{got, code}, []any{impl.Terrain{}, impl.ErrInvalid})
	}
}

func expectCrop(t *testing.T, g impl.Terrain, x, y, width, height int64) {
	t.Helper()
	want := impl.Terrain{}
	exists := width >= 2 && height >= 2 && x >= 0 && y >= 0 && x+width <= g.Width && y+height <= g.Height
	if exists {
		want = impl.Terrain{Step: g.Step, Width: width, Height: height}
		for k := range height {
			for i := range width {
				want.Heights = append(want.Heights, g.Heights[(y+k)*g.Width+x+i])
				want.Clutter = append(want.Clutter, g.Clutter[(y+k)*g.Width+x+i])
			}
		}
	}
	got, code := impl.CropTerrain(g, x, y, width, height)
	if !impl.SameTerrain(got, want) || (code == impl.OK) != exists || !exists && code != impl.ErrRange {
		t.Errorf("CropTerrain(%d, %d, %d, %d) = %v, %d", x, y, width, height, got, code)
	}
}

func TestPromise5PointsInTerrains(t *testing.T) {
	for _, g := range terrains() {
		for _, p := range inside(g, 30) {
			expect(t, "InTerrain", impl.InTerrain(g, p), true)
		}
		for _, p := range outside(g) {
			expect(t, "InTerrain outside", impl.InTerrain(g, p), false)
			h, code := impl.HeightAt(g, p)
			class, classCode := impl.ClutterAt(g, p)
			expect(t, "HeightAt and ClutterAt outside", []int64{h, code, class, classCode}, []int64{0, impl.ErrRange, 0, impl.ErrRange})
		}
	}
	for _, g := range badTerrains() {
		for _, p := range []impl.Point{{}, {X: 3, Y: 3}, {X: -1}} {
			h, code := impl.HeightAt(g, p)
			class, classCode := impl.ClutterAt(g, p)
			expect(t, "a point in a bad terrain", []any{impl.InTerrain(g, p), h, code, class, classCode}, []any{false, 0, impl.ErrInvalid, 0, impl.ErrInvalid})
		}
	}
}

// slowHeight sums the corners with their weights as fractions; corners without weight need not exist.
func slowHeight(g impl.Terrain, p impl.Point) int64 {
	sum := new(big.Rat)
	for index, h := range g.Heights {
		x, y := int64(index)%g.Width*g.Step, int64(index)/g.Width*g.Step
		east, north := g.Step-max(p.X-x, x-p.X), g.Step-max(p.Y-y, y-p.Y)
		if east > 0 && north > 0 {
			weight := new(big.Rat).Mul(big.NewRat(east, g.Step), big.NewRat(north, g.Step))
			sum.Add(sum, weight.Mul(weight, big.NewRat(h, 1)))
		}
	}
	sum.Add(sum, big.NewRat(1, 2))
	return new(big.Int).Quo(sum.Num(), sum.Denom()).Int64()
}

// corners returns the least and the greatest height of the grid points less than a step away in both coordinates.
func corners(g impl.Terrain, p impl.Point) (int64, int64) {
	low, high := int64(math.MaxInt64), int64(math.MinInt64)
	for index, h := range g.Heights {
		x, y := int64(index)%g.Width*g.Step, int64(index)/g.Width*g.Step
		if max(p.X-x, x-p.X) < g.Step && max(p.Y-y, y-p.Y) < g.Step {
			low, high = min(low, h), max(high, h)
		}
	}
	return low, high
}

func TestPromise5HeightsBetweenGridPoints(t *testing.T) {
	middle, code := impl.HeightAt(four(), point(5, 5))
	expect(t, "the document's example", []int64{middle, code}, "[15 0]")
	for _, c := range []struct{ x, y, want int64 }{{0, 0, 0}, {10, 0, 10}, {0, 10, 20}, {10, 10, 31}, {5, 0, 5}, {10, 5, 21}, {5, 10, 26}, {10, 9, 29}, {9, 10, 30}, {1, 1, 3}} {
		got, _ := impl.HeightAt(four(), point(c.x, c.y))
		expect(t, "HeightAt between four points", got, c.want)
	}
	for _, g := range terrains() {
		for index, h := range g.Heights {
			got, code := impl.HeightAt(g, point(int64(index)%g.Width*g.Step, int64(index)/g.Width*g.Step))
			expect(t, "HeightAt of a grid point", []int64{got, code}, []int64{h, impl.OK})
		}
		for _, p := range inside(g, 120) {
			got, code := impl.HeightAt(g, p)
			low, high := corners(g, p)
			if got != slowHeight(g, p) || code != impl.OK || got < low || got > high {
				t.Errorf("HeightAt %v in a terrain with the step %d: %d, %d; want %d", p, g.Step, got, code, slowHeight(g, p))
			}
		}
	}
}

// nearestLine finds the grid line nearest to a coordinate, the greater one of two.
func nearestLine(coordinate, step, lines int64) int64 {
	best := int64(0)
	for line := range lines {
		if max(line*step-coordinate, coordinate-line*step) <= max(best*step-coordinate, coordinate-best*step) {
			best = line
		}
	}
	return best
}

func TestPromise5ClutterOfTheNearestGridPoint(t *testing.T) {
	for _, c := range []struct{ x, y, want int64 }{{0, 0, 0}, {4, 4, 0}, {5, 4, 1}, {4, 5, 2}, {5, 5, 3}, {10, 10, 3}, {10, 4, 1}, {0, 10, 2}} {
		got, code := impl.ClutterAt(four(), point(c.x, c.y))
		expect(t, "ClutterAt between four points", []int64{got, code}, []int64{c.want, impl.OK})
	}
	for _, g := range terrains() {
		list := inside(g, 80)
		for line := range least(g.Width, g.Height) - 1 {
			middle := line*g.Step + g.Step/2
			list = append(list, point(middle, middle), point(middle+1, middle), point(middle, middle+1))
		}
		for _, p := range list {
			want := g.Clutter[nearestLine(p.Y, g.Step, g.Height)*g.Width+nearestLine(p.X, g.Step, g.Width)]
			if got, code := impl.ClutterAt(g, p); got != want || code != impl.OK {
				t.Errorf("ClutterAt %v in a terrain with the step %d: %d, %d; want %d", p, g.Step, got, code, want)
			}
		}
	}
}

func TestPromise5HighestPoints(t *testing.T) {
	flat, _ := impl.FlatTerrain(100, 3, 2, 7)
	p, h, code := impl.HighestPoint(flat)
	expect(t, "HighestPoint of a flat terrain", []any{p, h, code}, "[{0 0} 7 0]")
	twice := impl.Terrain{Step: 5, Width: 3, Height: 2, Heights: []int64{1, 2, 9, 9, 9, 0}, Clutter: zeros(6)}
	p, h, code = impl.HighestPoint(twice)
	expect(t, "HighestPoint, the first one", []any{p, h, code}, "[{10 0} 9 0]")
	for _, g := range terrains() {
		p, h, code := impl.HighestPoint(g)
		index := slices.Index(g.Heights, slices.Max(g.Heights))
		want := point(int64(index)%g.Width*g.Step, int64(index)/g.Width*g.Step)
		expect(t, "HighestPoint", []any{p, h, code}, []any{want, g.Heights[index], impl.OK})
	}
	for _, g := range badTerrains() {
		p, h, code := impl.HighestPoint(g)
		expect(t, "HighestPoint of a bad terrain", []any{p, h, code}, []any{impl.Point{}, 0, impl.ErrInvalid})
	}
}

// reversed returns a list from behind.
func reversed[T any](list []T) []T {
	list = slices.Clone(list)
	slices.Reverse(list)
	return list
}

func TestPromise5PlacesOfProfiles(t *testing.T) {
	for _, c := range []struct {
		a, b impl.Point
		n    int64
		want []impl.Point
	}{
		{point(0, 0), point(3, 0), 3, []impl.Point{{}, {X: 2}, {X: 3}}},
		{point(3, 0), point(0, 0), 3, []impl.Point{{X: 3}, {X: 2}, {}}},
		{point(0, 0), point(0, 3), 3, []impl.Point{{}, {Y: 2}, {Y: 3}}},
		{point(0, 3), point(0, 0), 3, []impl.Point{{Y: 3}, {Y: 2}, {}}},
		{point(0, 3), point(3, 0), 3, []impl.Point{{Y: 3}, {X: 2, Y: 1}, {X: 3}}}, // -1.5 is rounded to -2
		{point(3, 0), point(0, 3), 3, []impl.Point{{X: 3}, {X: 2, Y: 1}, {Y: 3}}},
		{point(4, 4), point(4, 4), 4, []impl.Point{{X: 4, Y: 4}, {X: 4, Y: 4}, {X: 4, Y: 4}, {X: 4, Y: 4}}},
		{point(9, 0), point(2, 7), 2, []impl.Point{{X: 9}, {X: 2, Y: 7}}},
	} {
		got, code := impl.ProfilePlaces(c.a, c.b, c.n)
		expect(t, "ProfilePlaces", []any{got, code}, []any{c.want, impl.OK})
	}
	list := places(40)
	for i, a := range list {
		b, n := list[len(list)-1-i], int64(2+i*63/(len(list)-1))
		from, to := a, b
		if b.X < a.X || b.X == a.X && b.Y < a.Y {
			from, to = b, a
		}
		want := make([]impl.Point, n)
		for k := range n {
			want[k] = point(from.X+nearest(k*(to.X-from.X), n-1), from.Y+nearest(k*(to.Y-from.Y), n-1))
		}
		if from != a {
			want = reversed(want)
		}
		there, code := impl.ProfilePlaces(a, b, n)
		back, backCode := impl.ProfilePlaces(b, a, n)
		if !slices.Equal(there, want) || !slices.Equal(there, reversed(back)) || there[0] != a || there[n-1] != b || code != impl.OK || backCode != impl.OK {
			t.Errorf("ProfilePlaces(%v, %v, %d) = %v", a, b, n, there)
		}
	}
}

func TestPromise5PlacesOfProfilesWithErrors(t *testing.T) {
	for _, n := range []int64{1, 0, -1, 66, math.MinInt64, math.MaxInt64} {
		got, code := impl.ProfilePlaces(point(0, 0), point(3, 0), n)
		expect(t, "ProfilePlaces with a bad number", []any{got, code}, []any{"[]", impl.ErrRange})
	}
	for _, p := range badPoints {
		got, code := impl.ProfilePlaces(p, point(3, 0), 1)
		expect(t, "ProfilePlaces from a bad point", []any{got, code}, []any{"[]", impl.ErrInvalid})
		got, code = impl.ProfilePlaces(point(3, 0), p, 3)
		expect(t, "ProfilePlaces to a bad point", []any{got, code}, []any{"[]", impl.ErrInvalid})
	}
}

func TestPromise5ProfilesAreTheSameInBothDirections(t *testing.T) {
	for _, g := range terrains() {
		list := inside(g, 40)
		for i, a := range list {
			b, n := list[len(list)-1-i], int64(2+i*63/(len(list)-1))
			places, _ := impl.ProfilePlaces(a, b, n)
			var heights, classes []int64
			for _, p := range places {
				h, _ := impl.HeightAt(g, p)
				class, _ := impl.ClutterAt(g, p)
				heights, classes = append(heights, h), append(classes, class)
			}
			there, code := impl.ProfileOf(g, a, b, n)
			back, backCode := impl.ProfileOf(g, b, a, n)
			expect(t, "ProfileOf", []any{there, code, back, backCode}, []any{heights, 0, reversed(heights), 0})
			there, code = impl.ProfileClutter(g, a, b, n)
			back, backCode = impl.ProfileClutter(g, b, a, n)
			expect(t, "ProfileClutter", []any{there, code, back, backCode}, []any{classes, 0, reversed(classes), 0})
		}
	}
	heights, _ := impl.ProfileOf(four(), point(0, 0), point(10, 10), 3)
	expect(t, "ProfileOf across four points", heights, "[0 15 31]")
}

func TestPromise5ProfilesWithErrors(t *testing.T) {
	bad := impl.Terrain{}
	for _, c := range []struct {
		g       impl.Terrain
		a, b    impl.Point
		n, code int64
	}{
		{four(), point(0, 0), point(10, 10), 2, impl.OK}, {four(), point(10, 10), point(0, 0), 65, impl.OK}, {four(), point(4, 4), point(4, 4), 2, impl.OK},
		{four(), point(0, 0), point(11, 0), 3, impl.ErrRange}, {four(), point(0, 11), point(0, 0), 3, impl.ErrRange}, {four(), point(200000, 0), point(0, 200000), 3, impl.ErrRange},
		{four(), point(0, 0), point(10, 0), 1, impl.ErrRange}, {four(), point(0, 0), point(10, 0), 66, impl.ErrRange}, {four(), point(0, 0), point(10, 0), math.MinInt64, impl.ErrRange}, {four(), point(0, 0), point(10, 0), math.MaxInt64, impl.ErrRange},
		{four(), point(-1, 0), point(10, 0), 1, impl.ErrInvalid}, {four(), point(11, 0), point(0, 200001), 3, impl.ErrInvalid}, {bad, point(0, 0), point(10, 0), 1, impl.ErrInvalid}, {bad, point(0, 0), point(10, 0), 3, impl.ErrInvalid},
	} {
		heights, code := impl.ProfileOf(c.g, c.a, c.b, c.n)
		classes, classCode := impl.ProfileClutter(c.g, c.a, c.b, c.n)
		count := c.n
		if c.code != impl.OK {
			count = 0
		}
		expect(t, "ProfileOf and ProfileClutter", []any{len(heights), code, len(classes), classCode}, []any{count, c.code, count, c.code})
	}
	for _, g := range badTerrains() {
		_, code := impl.ProfileOf(g, point(0, 0), point(0, 1), 2)
		_, classCode := impl.ProfileClutter(g, point(0, 0), point(0, 1), 2)
		expect(t, "profiles of a bad terrain", []int64{code, classCode}, []int64{impl.ErrInvalid, impl.ErrInvalid})
	}
}

func TestPromise5TerrainsAreRestoredFromTheirTexts(t *testing.T) {
	expect(t, "TerrainText", impl.TerrainText(four()), "terrain 10 2 2\n0,10 0,1\n20,31 2,3\n")
	wide := impl.Terrain{Step: 10000, Width: 3, Height: 2, Heights: []int64{1, 2, 90000, 4, 5, 6}, Clutter: []int64{0, 1, 2, 3, 4, 7}}
	expect(t, "TerrainText, wide", impl.TerrainText(wide), "terrain 10000 3 2\n1,2,90000 0,1,2\n4,5,6 3,4,7\n")
	for _, g := range terrains() {
		if back, ok := impl.ReadTerrain(impl.TerrainText(g)); !ok || !impl.SameTerrain(back, g) {
			t.Errorf("a terrain with the step %d is not restored: %v, %v", g.Step, back, ok)
		}
	}
	for _, g := range badTerrains() {
		expect(t, "TerrainText of a bad terrain", impl.TerrainText(g), "")
	}
}

// otherTerrainTexts are not those of terrains.
func otherTerrainTexts() []string {
	list := []string{"", "\n", "terrain", "terrain\n", "terrain 10 2 2", "terrain 10 2 2\n", "terrain 0 0 0\n", "terrain 10 0 0\n", "terrain 10 2 2\n- -\n- -\n", "terrain 10 2 2\n0,10 0,1\n", "terrain 10 2 2\n0,10,20,31 0,1,2,3\n"}
	text := impl.TerrainText(four())
	for i := range text {
		list = append(list, text[:i], text[:i]+text[i+1:], text[:i]+" "+text[i:], text[:i]+"\n"+text[i:], text[:i]+"-"+text[i:], text[:i]+","+text[i:], text[:i]+"\r"+text[i:], text[:i]+"x"+text[i+1:])
	}
	for _, pair := range [][2]string{{"terrain", "Terrain"}, {"10 2 2", "10 2 3"}, {"10 2 2", "10 3 2"}, {"10 2 2", "10 4 1"}, {"10 2 2", "10001 2 2"}, {"10 2 2", "0 2 2"}, {"10 2 2", "-10 2 2"}, {"10 2 2", "+10 2 2"}, {"10 2 2", "010 2 2"}, {"10 2 2", "10 2 2 2"},
		{"0,10", "90001,10"}, {"0,10", "-1,10"}, {"0,10", "-0,10"}, {"0,10", "00,10"}, {"2,3", "2,8"}, {"2,3", "2,-3"}, {"2,3", "2,3,4"}, {"20,31 2,3", "2,3 20,31"}, {"\n20", "\n\n20"}, {"\n", "\r\n"}} {
		list = append(list, strings.Replace(text, pair[0], pair[1], 1))
	}
	list = append(list, text+"0", text+"\n", text+text, " "+text, "\n"+text, text+"20,31 2,3\n", strings.Repeat(text, 1000), "terrain 10 2 2\n"+strings.Repeat("0,10 0,1\n", 5000), "terrain 10 2 2\n"+strings.Repeat("1,", 5000))
	return slices.DeleteFunc(list, func(s string) bool {
		back, ok := impl.ReadTerrain(s)
		return ok && impl.ValidTerrain(back) && impl.TerrainText(back) == s // a digit left out may leave another terrain
	})
}

func TestPromise5OtherTerrainTextsAreNotRead(t *testing.T) {
	others := otherTerrainTexts()
	if len(others) < 200 {
		t.Errorf("only %d texts are not those of terrains", len(others))
	}
	for _, s := range others {
		if back, ok := impl.ReadTerrain(s); ok || !impl.SameTerrain(back, impl.Terrain{}) {
			t.Errorf("ReadTerrain(%.60q) = %v, %v", s, back, ok)
		}
	}
}
