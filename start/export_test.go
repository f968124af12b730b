package start

// RootOfSixBy tells the L of InitGlorot and InitHe, also where a matrix with so many rows and columns would have many elements.
func RootOfSixBy(n, width int) int { return rootOfSixBy(n, width) }
