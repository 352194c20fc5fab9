package tests

import (
	"math"
	"math/big"
	"slices"
	"testing"

	"loop.example/g00925/impl"
)

// someFrequencies are frequencies, the least and the greatest one among them.
var someFrequencies = []int64{1, 2, 999, 300000, 450000, 900000, 999999, 1000000, 38000000, 99999999, 100000000}

// someDistances are distances, the least and the greatest one among them.
var someDistances = []int64{1, 2, 3, 9, 10, 11, 99, 1000, 1001, 23716, 23717, 40000, 141500, 282999, 283000}

// farDistances are no distances.
var farDistances = []int64{0, -1, 283001, math.MinInt64, math.MaxInt64}

// slowFree returns the loss in free space by the words of the document.
func slowFree(f, d int64) int64 { return max(0, 2*impl.LogDb(d)+2*impl.LogDb(f)-87552) }

func TestPromise10LossesInFreeSpace(t *testing.T) {
	loss, code := impl.FreeLoss(900000, 1000)
	expect(t, "the document's example", []int64{loss, code}, "[91532 0]")
	for _, f := range someFrequencies {
		for _, d := range someDistances {
			loss, code := impl.FreeLoss(f, d)
			expect(t, "FreeLoss", []int64{loss, code}, []int64{slowFree(f, d), impl.OK})
			exact := 20000 * math.Log10(4*math.Pi*float64(d)*float64(f)*1000/299792458)
			// Both logarithms are rounded down and doubled.
			if math.Abs(float64(loss)-max(exact, 0)) > 5 {
				t.Errorf("FreeLoss(%d, %d) = %d, by the formula of Friis %f", f, d, loss, exact)
			}
		}
	}
	expect(t, "no loss less than 0", []int64{value(impl.FreeLoss(1, 23861)), value(impl.FreeLoss(1, 23862)), value(impl.FreeLoss(23861, 1)), value(impl.FreeLoss(23900, 1))}, "[0 2 0 14]")
}

func TestPromise10LossesGrowWithDistance(t *testing.T) {
	for _, f := range []int64{1, 900000} {
		last, most := int64(0), int64(math.MaxInt64)
		for d := int64(1); d <= 283000; d++ {
			loss, field := value(impl.FreeLoss(f, d)), value(impl.FieldStrength(0, d))
			if loss < last || field > most {
				t.Fatalf("at %d kHz and %d m the loss is %d after %d, the field %d after %d", f, d, loss, last, field, most)
			}
			last, most = loss, field
		}
	}
	for _, d := range someDistances {
		last := int64(0)
		for _, f := range someFrequencies {
			loss := value(impl.FreeLoss(f, d))
			if loss < last {
				t.Errorf("at %d kHz and %d m the loss is %d after %d", f, d, loss, last)
			}
			last = loss
		}
	}
	expect(t, "ten times as far", value(impl.FreeLoss(900000, 100000))-value(impl.FreeLoss(900000, 10000)), 20000)
}

func TestPromise10LossesWithErrors(t *testing.T) {
	for _, bad := range badFrequencies {
		for _, d := range []int64{1, 1000, 283000, 0} {
			loss, code := impl.FreeLoss(bad, d)
			expect(t, "FreeLoss at a bad frequency", []int64{loss, code}, []int64{0, impl.ErrRange})
			reach, code := impl.RangeOfLoss(bad, d)
			expect(t, "RangeOfLoss at a bad frequency", []int64{reach, code}, []int64{0, impl.ErrRange})
		}
	}
	for _, bad := range farDistances {
		for _, f := range []int64{1, 900000, 100000000, 0} {
			loss, code := impl.FreeLoss(f, bad)
			expect(t, "FreeLoss over a bad distance", []int64{loss, code}, []int64{0, impl.ErrRange})
			field, code := impl.FieldStrength(0, bad)
			expect(t, "FieldStrength at a bad distance", []int64{field, code}, []int64{0, impl.ErrRange})
		}
	}
	for _, bad := range []int64{-1, 300001, math.MinInt64, math.MaxInt64} {
		for _, f := range []int64{1, 100000000, 0} {
			reach, code := impl.RangeOfLoss(f, bad)
			expect(t, "RangeOfLoss of a bad loss", []int64{reach, code}, []int64{0, impl.ErrRange})
		}
	}
}

func TestPromise10TablesOfLosses(t *testing.T) {
	losses, code := impl.FreeTable(900000, []int64{1000, 100, 1000, 1, 283000})
	expect(t, "FreeTable", []any{losses, code}, "[[91532 71532 91532 31532 140566] 0]")
	for _, f := range someFrequencies {
		var want []int64
		for _, d := range someDistances {
			want = append(want, slowFree(f, d))
		}
		losses, code := impl.FreeTable(f, someDistances)
		expect(t, "FreeTable", []any{losses, code}, []any{want, impl.OK})
		losses, code = impl.FreeTable(f, slices.Repeat([]int64{7}, 64))
		expect(t, "FreeTable of 64 distances", []any{losses, code}, []any{slices.Repeat([]int64{slowFree(f, 7)}, 64), impl.OK})
		losses, code = impl.FreeTable(f, nil)
		expect(t, "FreeTable without distances", []any{losses, code}, []any{[]int64{}, impl.OK})
	}
}

func TestPromise10TablesOfLossesWithErrors(t *testing.T) {
	for _, f := range []int64{1, 900000, 0, -1, 100000001} {
		for _, distances := range [][]int64{slices.Repeat([]int64{7}, 65), zeros(65), zeros(100000)} {
			losses, code := impl.FreeTable(f, distances)
			expect(t, "FreeTable of too many distances", []any{losses, code}, []any{[]int64{}, impl.ErrFull})
		}
	}
	for _, bad := range badFrequencies {
		for _, distances := range [][]int64{nil, {1}, {0}, slices.Repeat([]int64{7}, 64)} {
			losses, code := impl.FreeTable(bad, distances)
			expect(t, "FreeTable at a bad frequency", []any{losses, code}, []any{[]int64{}, impl.ErrRange})
		}
	}
	for _, bad := range farDistances {
		for _, distances := range [][]int64{{bad}, {bad, 1}, {1, bad}, {1, 2, bad, 3}, append(slices.Repeat([]int64{7}, 63), bad)} {
			losses, code := impl.FreeTable(900000, distances)
			expect(t, "FreeTable of a bad distance", []any{losses, code}, []any{[]int64{}, impl.ErrRange})
		}
	}
}

// someLevels are levels and fields, the least and the greatest one among them.
var someLevels = []int64{-300000, -299999, -92448, -1, 0, 1, 30000, 44771, 104771, 299999, 300000}

func TestPromise10Fields(t *testing.T) {
	field, code := impl.FieldStrength(0, 1000)
	expect(t, "FieldStrength", []int64{field, code}, "[44771 0]")
	for _, v := range someLevels {
		for _, d := range someDistances {
			field, code := impl.FieldStrength(v, d)
			expect(t, "FieldStrength", []int64{field, code}, []int64{v - 2*impl.LogDb(d) + 104771, impl.OK})
		}
		for _, f := range someFrequencies {
			level, code := impl.LevelOfField(v, f)
			expect(t, "LevelOfField", []int64{level, code}, []int64{v - 2*impl.LogDb(f) - 17219, impl.OK})
			field, code := impl.FieldOfLevel(v, f)
			expect(t, "FieldOfLevel", []int64{field, code}, []int64{v + 2*impl.LogDb(f) + 17219, impl.OK})
			if impl.ValidLevel(field) {
				expect(t, "LevelOfField of FieldOfLevel", value(impl.LevelOfField(field, f)), v)
			}
		}
	}
}

func TestPromise10FieldsLoseAsMuchAsPaths(t *testing.T) {
	for _, f := range someFrequencies {
		for _, d := range someDistances {
			level := value(impl.LevelOfField(value(impl.FieldStrength(20000, d)), f))
			if loss := value(impl.FreeLoss(f, d)); loss > 0 && level != 20000-loss {
				t.Errorf("at %d kHz and %d m the field arrives with %d, and the path loses %d", f, d, level, loss)
			}
		}
	}
}

func TestPromise10FieldsWithErrors(t *testing.T) {
	for _, bad := range badLevels {
		for _, good := range []int64{1, 283000, 0} {
			field, fieldCode := impl.FieldStrength(bad, good)
			level, levelCode := impl.LevelOfField(bad, good)
			back, backCode := impl.FieldOfLevel(bad, good)
			there, thereCode := impl.RangeOfField(bad, good)
			far, farCode := impl.RangeOfField(good, bad)
			expect(t, "a bad level", []int64{field, fieldCode, level, levelCode, back, backCode, there, thereCode, far, farCode}, "[0 2 0 2 0 2 0 2 0 2]")
		}
	}
	for _, bad := range badFrequencies {
		for _, v := range someLevels {
			level, levelCode := impl.LevelOfField(v, bad)
			field, fieldCode := impl.FieldOfLevel(v, bad)
			expect(t, "a level at a bad frequency", []int64{level, levelCode, field, fieldCode}, "[0 2 0 2]")
		}
	}
	for _, bad := range badLevels {
		for _, other := range badLevels {
			_, code := impl.RangeOfField(bad, other)
			expect(t, "RangeOfField of two bad levels", code, impl.ErrRange)
		}
	}
}

// logs returns the logarithms of all distances; the one of d has the index d.
func logs() []int64 {
	list := make([]int64, 283001)
	for d := range list {
		list[d] = impl.LogDb(int64(d))
	}
	return list
}

// slowRange returns the greatest distance whose logarithm is at most a number, and a code; it tries all of them.
func slowRange(logs []int64, limit int64) (int64, int64) {
	for d := int64(283000); d > 0; d-- {
		if logs[d] <= limit {
			return d, impl.OK
		}
	}
	return 0, impl.ErrNotFound
}

func TestPromise10RangesAreTheGreatestDistancesForALoss(t *testing.T) {
	list := logs()
	for _, f := range someFrequencies {
		losses := []int64{0, 1, 299999, 300000}
		for _, d := range someDistances {
			loss := value(impl.FreeLoss(f, d))
			losses = append(losses, max(0, loss-1), loss, loss+1)
		}
		for _, loss := range losses {
			reach, code := impl.RangeOfLoss(f, loss)
			// The sum is even but for the loss, and every loss is at least 0.
			want, wantCode := slowRange(list, (loss+87552-2*impl.LogDb(f))>>1)
			expect(t, "RangeOfLoss", []int64{reach, code}, []int64{want, wantCode})
			if code == impl.OK && value(impl.FreeLoss(f, reach)) > loss {
				t.Errorf("at %d kHz the range %d loses more than %d", f, reach, loss)
			}
			if code == impl.OK && reach < 283000 && value(impl.FreeLoss(f, reach+1)) <= loss {
				t.Errorf("at %d kHz the range %d for %d is not the greatest one", f, reach, loss)
			}
		}
	}
	near, nearCode := impl.RangeOfLoss(100000000, 72448)
	none, noneCode := impl.RangeOfLoss(100000000, 72447)
	all, allCode := impl.RangeOfLoss(1, 300000)
	expect(t, "1 m, no distance and the greatest one", []int64{near, nearCode, none, noneCode, all, allCode}, "[1 0 0 3 283000 0]")
}

func TestPromise10RangesAreTheGreatestDistancesForAField(t *testing.T) {
	example, code := impl.RangeOfField(0, 104771)
	expect(t, "the document's example", []int64{example, code}, "[1 0]")
	list := logs()
	for _, eirp := range someLevels {
		fields := slices.Clone(someLevels)
		for _, d := range someDistances {
			if field := value(impl.FieldStrength(eirp, d)); impl.ValidLevel(field-1) && impl.ValidLevel(field+1) {
				fields = append(fields, field-1, field, field+1)
			}
		}
		for _, field := range fields {
			reach, code := impl.RangeOfField(eirp, field)
			want, wantCode := slowRange(list, (eirp+104771-field)>>1)
			expect(t, "RangeOfField", []int64{reach, code}, []int64{want, wantCode})
			if code == impl.OK && value(impl.FieldStrength(eirp, reach)) < field {
				t.Errorf("at the range %d the field of %d is less than %d", reach, eirp, field)
			}
			if code == impl.OK && reach < 283000 && value(impl.FieldStrength(eirp, reach+1)) >= field {
				t.Errorf("the range %d of %d for %d is not the greatest one", reach, eirp, field)
			}
		}
	}
	none, noneCode := impl.RangeOfField(0, 104772)
	all, allCode := impl.RangeOfField(300000, -300000)
	expect(t, "no distance and the greatest one", []int64{none, noneCode, all, allCode}, "[0 3 283000 0]")
}

func TestPromise10Wavelengths(t *testing.T) {
	for f, want := range map[int64]int64{300000: 999, 1: 299792458, 2: 149896229, 299792: 1000, 299793: 999, 900000: 333, 100000000: 2, 99930820: 2} {
		length, code := impl.WavelengthOf(f)
		expect(t, "WavelengthOf", []int64{length, code}, []int64{want, impl.OK})
	}
	for _, f := range someFrequencies {
		if length := value(impl.WavelengthOf(f)); length*f > 299792458 || (length+1)*f <= 299792458 {
			t.Errorf("WavelengthOf(%d) = %d", f, length)
		}
	}
	for _, bad := range badFrequencies {
		length, code := impl.WavelengthOf(bad)
		expect(t, "WavelengthOf a bad frequency", []int64{length, code}, []int64{0, impl.ErrRange})
	}
}

func TestPromise10FarFields(t *testing.T) {
	for _, f := range someFrequencies {
		for _, size := range []int64{1, 2, 3, 333, 1000, 12243, 99999, 100000} {
			want := big.NewInt(2 * size * size)
			want.Quo(want.Mul(want, big.NewInt(f)), big.NewInt(299792458))
			distance, code := impl.FarDistance(f, size)
			expect(t, "FarDistance", []any{distance, code}, []any{want, impl.OK})
		}
		for _, bad := range []int64{0, -1, 100001, math.MinInt64, math.MaxInt64} {
			distance, code := impl.FarDistance(f, bad)
			expect(t, "FarDistance of a bad size", []int64{distance, code}, []int64{0, impl.ErrRange})
		}
	}
	for _, bad := range badFrequencies {
		for _, size := range []int64{1, 100000, 0} {
			distance, code := impl.FarDistance(bad, size)
			expect(t, "FarDistance at a bad frequency", []int64{distance, code}, []int64{0, impl.ErrRange})
		}
	}
	expect(t, "the greatest far field", value(impl.FarDistance(100000000, 100000)), 6671281903)
}
