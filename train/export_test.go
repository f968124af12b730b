package train

// Mean and Told are for tests: no rows have losses whose mean is not finite.
var (
	Mean = mean
	Told = told
)
