// Package span tells how far the numbers of a state reach.
package span

// Upto tells whether all numbers are from 0 to the most that may be.
func Upto(most int, numbers ...int) bool {
	for _, k := range numbers {
		if k < 0 || k > most {
			return false
		}
	}
	return true
}

// Filled tells whether the first numbers, so many, are from 0 to the most that may be, and all behind them are 0.
func Filled(numbers []int, count, most int) bool {
	return Upto(most, numbers[:count]...) && Upto(0, numbers[count:]...)
}
