package tests

import (
	"go/ast"
	"go/parser"
	"go/token"
	"math"
	"math/big"
	"math/rand"
	"testing"

	"loop.example/g00925/impl"
)

// tenthPower follows chapter 2 with big integers: the digits of the tenth power of x / 10^8, and its exponent.
func tenthPower(x *big.Int) (*big.Int, int64) {
	one, ten := big.NewInt(100000000), big.NewInt(10)
	exponents := map[*big.Int]int64{}
	times := func(a, b *big.Int) *big.Int {
		product := new(big.Int).Mul(a, b)
		product.Quo(product, one)
		exponent := exponents[a] + exponents[b]
		if product.Cmp(big.NewInt(1000000000)) >= 0 {
			product.Quo(product, ten)
			exponent++
		}
		exponents[product] = exponent
		return product
	}
	x2 := times(x, x)
	x4 := times(x2, x2)
	x5 := times(x4, x)
	x10 := times(x5, x5)
	return x10, exponents[x10]
}

// slowLog is LogDb by the words of the document, one division at a time.
func slowLog(n int64) int64 {
	r := int64(len(big.NewInt(n).String()) - 1)
	x := big.NewInt(n)
	for k := r; k < 8; k++ {
		x.Mul(x, big.NewInt(10))
	}
	for k := r; k > 8; k-- {
		x.Quo(x, big.NewInt(10))
	}
	for range 4 {
		power, exponent := tenthPower(x)
		x, r = power, 10*r+exponent
	}
	return r
}

// powersOfTen returns 1, 10, 100 and so on.
func powersOfTen() []int64 {
	list := []int64{1}
	for range 18 {
		list = append(list, list[len(list)-1]*10)
	}
	return list
}

func TestPromise3Levels(t *testing.T) {
	for v, want := range map[int64]bool{0: true, -300000: true, 300000: true, -300001: false, 300001: false, math.MinInt64: false, math.MaxInt64: false} {
		expect(t, "ValidLevel", impl.ValidLevel(v), want)
	}
}

func TestPromise3LogarithmsDigitByDigit(t *testing.T) {
	for n, want := range map[int64]int64{1: 0, 2: 3010, 3: 4771, 9: 9542, 10: 10000, 999: 29995, 1000: 30000, 123456789012: 110915, math.MaxInt64: 189648, 0: 0, -5: 0, math.MinInt64: 0} {
		expect(t, "LogDb", impl.LogDb(n), want)
	}
	list := numbers(3000)
	for n := range int64(3000) {
		list = append(list, n+1)
	}
	for k, ten := range powersOfTen() {
		expect(t, "LogDb of a power of ten", impl.LogDb(ten), 10000*k)
		list = append(list, ten, ten+1, 5*ten/4, 9*(ten/10)+ten/11)
		if ten > 1 {
			list = append(list, ten-1)
		}
	}
	// Here a digit changes, so a product that is rounded otherwise shows.
	for v := int64(80000); v < 90000; v++ {
		n := impl.PowDb(v)
		list = append(list, n-1, n, n+1)
	}
	for _, n := range list {
		if n < 1 {
			continue
		}
		got := impl.LogDb(n)
		if want := slowLog(n); got != want {
			t.Errorf("LogDb(%d) = %d, want %d", n, got, want)
		}
		if exact := 10000 * math.Log10(float64(n)); float64(got) > exact+0.001 || float64(got) < exact-1.01 {
			t.Errorf("LogDb(%d) = %d is far from %f", n, got, exact)
		}
	}
}

func TestPromise3LogarithmsAreMonotone(t *testing.T) {
	last := int64(0)
	for n := int64(1); n <= 150000; n++ {
		log := impl.LogDb(n)
		if log < last {
			t.Fatalf("LogDb(%d) = %d is less than %d", n, log, last)
		}
		last = log
	}
	for _, n := range append(numbers(3000), powersOfTen()...) {
		if n < 1 {
			continue
		}
		for _, step := range []int64{1, 2, n / 1000000, n / 20000, n / 1000} {
			if impl.LogDb(n) > impl.LogDb(least(n, math.MaxInt64-step)+step) || n > step && impl.LogDb(n-step) > impl.LogDb(n) {
				t.Errorf("LogDb is not monotone at %d with the step %d", n, step)
			}
		}
	}
}

func least(a, b int64) int64 {
	if a < b {
		return a
	}
	return b
}

func TestPromise3PowersUndoLogarithms(t *testing.T) {
	for v, want := range map[int64]int64{0: 1, 1: 2, 3010: 2, 3011: 3, 9543: 10, 9999: 10, 10000: 10, 12345: 18, 30000: 1000, 90000: 1000000000, 170000: 100000000000000000, 180000: 1000000000000000000,
		-1: 0, 180001: 0, 190000: 0, math.MinInt64: 0, math.MaxInt64: 0} {
		expect(t, "PowDb", impl.PowDb(v), want)
	}
	for v := int64(0); v <= 180000; v += 7 {
		n := impl.PowDb(v)
		if n < 1 || impl.LogDb(n) < v || n > 1 && impl.LogDb(n-1) >= v {
			t.Fatalf("PowDb(%d) = %d is not the least number", v, n)
		}
	}
	for n := int64(1); n < 2000; n++ {
		if back := impl.PowDb(impl.LogDb(n)); back > n || impl.LogDb(back) != impl.LogDb(n) {
			t.Errorf("PowDb(LogDb(%d)) = %d", n, back)
		}
	}
}

func TestPromise3Ratios(t *testing.T) {
	expect(t, "RatioDb", impl.RatioDb(1000, 2), 26990)
	expect(t, "RatioDb, exchanged", impl.RatioDb(2, 1000), -26990)
	expect(t, "RatioDb of the ends", impl.RatioDb(1, math.MaxInt64), -189648)
	for _, pair := range [][2]int64{{0, 2}, {2, 0}, {-1, 2}, {2, -1}, {0, 0}, {math.MinInt64, math.MaxInt64}} {
		expect(t, "RatioDb of bad numbers", impl.RatioDb(pair[0], pair[1]), 0)
	}
}

// slowSum adds the parts as the document says, without an order of its own.
func slowSum(list []int64) int64 {
	most, sum := list[0], int64(0)
	for _, v := range list {
		most = max(most, v)
	}
	for _, v := range list {
		if v == most {
			sum += 1000000000
		} else if v-most >= -90000 {
			sum += impl.PowDb(90000 + v - most)
		}
	}
	return most - 90000 + impl.LogDb(sum)
}

func TestPromise3SumsDoNotDependOnTheOrder(t *testing.T) {
	source := rand.New(rand.NewSource(2))
	for range 150 {
		list := make([]int64, 1+source.Intn(64))
		spread := []int64{10, 3000, 100000, 300000}[source.Intn(4)]
		for i := range list {
			list[i] = source.Int63n(2*spread+1) - spread
		}
		sum, code := impl.SumDb(list)
		mean, meanCode := impl.MeanDb(list)
		if code != impl.OK || meanCode != impl.OK || sum != slowSum(list) || mean != sum-impl.LogDb(int64(len(list))) {
			t.Fatalf("SumDb and MeanDb of %v: %d and %d", list, sum, mean)
		}
		for range 3 {
			source.Shuffle(len(list), func(i, k int) { list[i], list[k] = list[k], list[i] })
			again, _ := impl.SumDb(list)
			meanAgain, _ := impl.MeanDb(list)
			if again != sum || meanAgain != mean {
				t.Fatalf("in another order the sum is %d instead of %d, the mean %d instead of %d", again, sum, meanAgain, mean)
			}
		}
	}
}

func TestPromise3SumsAtTheEdges(t *testing.T) {
	for _, c := range []struct {
		list           []int64
		sum, mean, err int64
	}{
		{[]int64{-90000, -90000}, -86990, -90000, impl.OK},
		{[]int64{5}, 5, 5, impl.OK},
		{[]int64{0, -90000}, 0, -3010, impl.OK},
		{[]int64{0, -90001}, 0, -3010, impl.OK},
		{[]int64{300000, 300000}, 303010, 300000, impl.OK},
		{[]int64{-300000}, -300000, -300000, impl.OK},
		{[]int64{-300000, 300000}, 300000, 296990, impl.OK},
		{zeros(64), 18061, 0, impl.OK},
		{zeros(65), 0, 0, impl.ErrFull},
		{nil, 0, 0, impl.ErrState},
		{[]int64{300001}, 0, 0, impl.ErrRange},
		{[]int64{0, -300001}, 0, 0, impl.ErrRange},
		{append(zeros(65), 300001), 0, 0, impl.ErrRange},
		{[]int64{math.MinInt64, math.MaxInt64}, 0, 0, impl.ErrRange},
	} {
		sum, code := impl.SumDb(c.list)
		mean, meanCode := impl.MeanDb(c.list)
		expect(t, "SumDb and MeanDb", []int64{sum, code, mean, meanCode}, []int64{c.sum, c.err, c.mean, c.err})
	}
}

func TestPromise3Differences(t *testing.T) {
	for _, c := range []struct{ a, b, diff, code int64 }{
		{0, -10000, -458, impl.OK},
		{0, -90000, -1, impl.OK},
		{0, -90001, 0, impl.OK},
		{300000, -300000, 300000, impl.OK},
		{-299999, -300000, -299999 - 90000 + impl.LogDb(1000000000-impl.PowDb(89999)), impl.OK},
		{0, 0, 0, impl.ErrState},
		{-10, 0, 0, impl.ErrState},
		{-300000, 300000, 0, impl.ErrState},
		{300001, 0, 0, impl.ErrRange},
		{0, -300001, 0, impl.ErrRange},
		{-300001, -300001, 0, impl.ErrRange},
		{0, math.MinInt64, 0, impl.ErrRange},
	} {
		diff, code := impl.DiffDb(c.a, c.b)
		expect(t, "DiffDb", []int64{diff, code}, []int64{c.diff, c.code})
	}
	for drop := int64(100); drop < 20000; drop += 53 {
		rest, code := impl.DiffDb(1000, 1000-drop)
		if code != impl.OK {
			t.Fatalf("DiffDb with the drop %d has the code %d", drop, code)
		}
		sum, _ := impl.SumDb([]int64{rest, 1000 - drop})
		if sum < 998 || sum > 1002 {
			t.Errorf("with the drop %d, difference and subtrahend sum up to %d", drop, sum)
		}
	}
}

func TestPromise3LevelTextsAreReadBack(t *testing.T) {
	for v, want := range map[int64]string{-12345: "-12.345", 0: "0.000", 7: "0.007", -5: "-0.005", 1000: "1.000", -1000: "-1.000", 99: "0.099", 300000: "300.000", -300000: "-300.000"} {
		expect(t, "DbText", impl.DbText(v), want)
	}
	for v := int64(-impl.MaxLevel); v <= impl.MaxLevel; v += 11 {
		if back, ok := impl.ReadDb(impl.DbText(v)); !ok || back != v {
			t.Fatalf("ReadDb(DbText(%d)) = %d, %v", v, back, ok)
		}
	}
	for _, v := range []int64{300001, -300001, math.MinInt64, math.MaxInt64} {
		expect(t, "DbText of no level", impl.DbText(v), "")
	}
}

func TestPromise3OtherLevelTextsAreNotRead(t *testing.T) {
	for _, s := range []string{"", "-", ".", "1", "1.", ".500", "-.500", "1.0", "1.00", "1.0000", "-0.000", "00.000", "01.000", "+1.000", "-+1.000", "--1.000", "1.-01", "1.+01", "1. 01", " 1.000", "1.000 ", "1.000\n",
		"1,000", "1.0.0", "1.00a", "a.000", "0x1.000", "1_0.000", "300.001", "-300.001", "1000.000", "9223372036854775.808", "18446744073709551.617", "٠.٠٠٠"} {
		if v, ok := impl.ReadDb(s); ok || v != 0 {
			t.Errorf("ReadDb(%q) = %d, %v", s, v, ok)
		}
	}
}

// namesUsed returns, for each function of some layers, the names in its declaration.
func namesUsed(t *testing.T, layers ...string) map[string][]string {
	used := map[string][]string{}
	for _, layer := range layers {
		parsed, err := parser.ParseFile(token.NewFileSet(), "../impl/"+layer+".go", nil, parser.SkipObjectResolution)
		if err != nil {
			t.Fatal(err)
		}
		for _, d := range parsed.Decls {
			function, ok := d.(*ast.FuncDecl)
			if !ok {
				continue
			}
			name := function.Name.Name
			ast.Inspect(function, func(n ast.Node) bool {
				if id, ok := n.(*ast.Ident); ok && id.Name != name {
					used[name] = append(used[name], id.Name)
				}
				return true
			})
		}
	}
	return used
}

// reaches reports whether a function comes to a name, itself or through the functions that it uses.
func reaches(used map[string][]string, from, name string, seen map[string]bool) bool {
	if from == name {
		return true
	}
	seen[from] = true
	for _, next := range used[from] {
		if !seen[next] && reaches(used, next, name, seen) {
			return true
		}
	}
	return false
}

// LANGUAGE.md, rule 3b: powers and sums are computed by a function, and the table built once stays beside it.
func TestPromise3PowersAndSumsNeedNoStoredTable(t *testing.T) {
	used := namesUsed(t, "l01_basics", "l02_decibels")
	for _, name := range []string{"tens", "tensOnce"} {
		for _, from := range []string{"LogDb", "PowDb", "RatioDb", "SumDb", "MeanDb", "DiffDb"} {
			if len(used[from]) == 0 || reaches(used, from, name, map[string]bool{}) {
				t.Errorf("%s is computed through %s", from, name)
			}
		}
		if !reaches(used, "ReadDb", name, map[string]bool{}) {
			t.Errorf("ReadDb does not read %s", name)
		}
	}
}
